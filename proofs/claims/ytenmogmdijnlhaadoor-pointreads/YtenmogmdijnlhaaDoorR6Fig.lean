/- swageref06.figures: a number's digits, as strconv tells them; whether two numbers of the document are the same. -/
import Derived.Test.YtenmogmdijnlhaaDoorR2DM
import Derived.RegionTactic
import Derived.Test.YtenmogmdijnlhaaDoorDivMod
import Derived.Test.YtenmogmdijnlhaaDoorDec
import Derived.RangeFuncBox
import Derived.RangeFuncLeaves
import Derived.RangeFuncNested
import Derived.Shelf.Abstract
import Derived.OwnWalkIn
import Derived.TacticsInMore
import Derived.LoopNIn
import Derived.LoopIn
import Derived.Maps.AppendAt
import Derived.Laws.BytesArg
import Derived.Test.YtenmogmdijnlhaaDoorRead
import Derived.Test.YtenmogmdijnlhaaDoorIVar
import Derived.Test.YtenmogmdijnlhaaDoorIRead
import Derived.Test.YtenmogmdijnlhaaDoorR2Div1
import Derived.BigRegion
import Derived.Test.YtenmogmdijnlhaaDoorR2Num
import Derived.Test.YtenmogmdijnlhaaDoorPtTx
namespace Go.Proofs.YtenmogmdijnlhaaDoor
open Go.RowKit

/-- the number whose digits lie over a slice -/
def dnumOf (w : World) : Value → Nat
  | .slice (some a) n _ => D.val ((List.range n).map fun i => match w.cell? ⟨a.block, a.off + i, none⟩ with
    | some (.int _ z) => z.toNat
    | _ => 0)
  | _ => 0
theorem Nums.dnumOf {w : World} {v : Value} {xs : List Nat} (h : Nums w v xs) : dnumOf w v = D.val xs := by
  rcases h.cases with ⟨rfl, a, cap, rfl, _⟩ | ⟨hpos, b, off, cap, rfl, hl, hm, hb, hc⟩
  · cases a <;> rfl
  · show D.val ((List.range xs.length).map _) = D.val xs
    congr 1
    apply List.ext_getElem (by simp)
    intro i h1 h2
    simp only [List.getElem_map, List.getElem_range]
    rw [hc i h2]
    simp [lm_get _ _ h2]
/-- the number that a variable of the document's holds, without its sign -/
def dnumAt (w : World) (g : Nat) : Nat := dnumOf w ((w.cell? ⟨g, 1, none⟩).getD undef)
theorem dnumAt_eq {w : World} {g : Nat} {s : Bool} {m : Option Addr} {n c k : Nat} (h : Box2 w g 61 (.bool s) (.slice m n c)) (i : RInt w (.agg #[.bool s, .slice m n c]) (k : Int)) : dnumAt w g = k := by
  unfold dnumAt
  rw [h.cell1]
  obtain ⟨b, j, a, c', he, hn, hz, h0⟩ := i
  simp only [Value.agg.injEq, Array.mk.injEq, List.cons.injEq, Value.bool.injEq, Value.slice.injEq, and_true] at he
  obtain ⟨rfl, rfl, rfl, rfl⟩ := he
  rw [Option.getD_some, hn.dnumOf, D.val_lim]
  have := congrArg Int.natAbs hz
  rw [sg_abs] at this
  simpa using this.symm
set_option maxRecDepth 100000 in
set_option maxHeartbeats 8000000 in
theorem rgcd_any (v1 v2 : Value) (x y : Int) (w : World) (h1 : RInt w v1 x) (h2 : RInt w v2 y) (l1 : (D.lim x.natAbs).length ≤ 10000000) (l2 : (D.lim y.natAbs).length ≤ 10000000) :
    Calls Tryd.prog 61 #[v1, v2] w fun e w' => ∃ v, e = .returned v ∧ RInt w' v (Int.gcd x y : Int) ∧ Below w.heap.size w w' := by
  obtain ⟨s1, a1, L1, c1, rfl, i1⟩ := h1.cells
  obtain ⟨s2, a2, L2, c2, rfl, i2⟩ := h2.cells
  have HE := hide (nboxes3 61 w (.bool s1) (.slice a1 L1 c1) (.bool s2) (.slice a2 L2 c2) (.bool false) (.slice none 0 0))
  have I1 := hide (i1.below HE.out.2.2.2)
  have I2 := hide (i2.below HE.out.2.2.2)
  have HB := hide HE.out.2.2.2
  have P0 := hide HE.out.1
  have P1 := hide HE.out.2.1
  have P2 := hide HE.out.2.2.1
  clear h1 h2 i1 i2 HE
  go_enter Tryd.func61, Tryd.ntmps61
  go_wp2_with fail
  generalize ((w.alloc (.cells #[.bool s1, .slice a1 L1 c1] 61)).alloc (.cells #[.bool s2, .slice a2 L2 c2] 61)).alloc (.cells #[.bool false, .slice none 0 0] 61) = w0 at *
  go_cut [5, 6] from 9 (fun pt0 pt1 wx => ∃ gq sa ma la ka gr sb mb lb kb, pt0 = .pointer (some ⟨gq, 0, none⟩) ∧ w0.heap.size ≤ gq ∧ Box2 wx gq 61 (.bool sa) (.slice ma la ka) ∧ RInt wx (.agg #[.bool sa, .slice ma la ka]) (x.natAbs : Int) ∧ pt1 = .pointer (some ⟨gr, 0, none⟩) ∧ w0.heap.size ≤ gr ∧ Box2 wx gr 61 (.bool sb) (.slice mb lb kb) ∧ RInt wx (.agg #[.bool sb, .slice mb lb kb]) (y.natAbs : Int) ∧ gq ≠ gr ∧ Below w0.heap.size w0 wx)
  case first =>
    refine wp_facts (fun L T wq => Below w0.heap.size w0 wq ∧ T 2 = .pointer (some ⟨w.heap.size, 0, none⟩) ∧ T 3 = .pointer (some ⟨(w.heap.size + 1), 0, none⟩) ∧ (L 0 = true → T 9 = .agg #[.bool s1, .slice a1 L1 c1]) ∧ (L 2 = true → T 11 = .agg #[.bool s2, .slice a2 L2 c2]) ∧ (L 1 = true → RInt wq (T 10) (x.natAbs : Int)) ∧ (L 3 = true → RInt wq (T 12) (y.natAbs : Int)) ∧ (L 4 = true → PS w0.heap.size wq (T 5)) ∧ (L 4 = true → L 6 = false → PB w0.heap.size wq 61 (T 5) [.bool false, .slice none 0 0]) ∧ (L 5 = true → PS w0.heap.size wq (T 6)) ∧ (L 5 = true → L 7 = false → PB w0.heap.size wq 61 (T 6) [.bool false, .slice none 0 0]) ∧ (L 4 = true → L 5 = true → T 5 ≠ T 6) ∧ (L 6 = true → PV w0.heap.size wq 61 (T 5) (T 10)) ∧ (L 7 = true → PV w0.heap.size wq 61 (T 6) (T 12))) 26 [5, 6, 9, 10, 11, 12] [0, 1, 2, 3, 4, 5, 6, 7] (by kernel_rfl) (by kernel_rfl) (by kernel_rfl) (by kernel_rfl) ?_ ?_ ?_
    · exact ⟨(Below.refl w0.heap.size w0).drew, rfl, rfl, no_yet, no_yet, no_yet, no_yet, no_yet, no_yet, no_yet, no_yet, no_yet, no_yet, no_yet⟩
    · intro i hi
      match i, hi with
      | 0, _ =>
        refine StepAt.of (need := []) (later := []) (k := 6) (d := some 9) rfl rfl (by kernel_rfl) (by kernel_rfl) ?_
        intro L T wq ev a he hL hN hM hJ next hnext
        have e2 := (he.tmp 2).trans hJ.2.1
        have hcl0 := ((P0.out).step hJ.1).cell0
        have hcl1 := ((P0.out).step hJ.1).cell1
        go_simp
        exact hnext _ _ ⟨hJ.1, hJ.2.1, hJ.2.2.1, fun _ => rfl, hJ.2.2.2.2.1, hJ.2.2.2.2.2.1, hJ.2.2.2.2.2.2.1, hJ.2.2.2.2.2.2.2.1, hJ.2.2.2.2.2.2.2.2.1, hJ.2.2.2.2.2.2.2.2.2.1, hJ.2.2.2.2.2.2.2.2.2.2.1, hJ.2.2.2.2.2.2.2.2.2.2.2.1, hJ.2.2.2.2.2.2.2.2.2.2.2.2.1, hJ.2.2.2.2.2.2.2.2.2.2.2.2.2⟩
      | 1, _ =>
        refine StepAt.of (need := [0]) (later := [6]) (k := 6) (d := some 10) rfl rfl (by kernel_rfl) (by kernel_rfl) ?_
        intro L T wq ev a he hL hN hM hJ next hnext
        have e9 := (he.tmp 9).trans (hJ.2.2.2.1 (hN.1))
        have ef := he.func
        go_simp
        refine (rabs_any _ x _ (I1.out.below hJ.1)).mono ?_
        rintro e wq' ⟨v, rfl, i, hb⟩
        exact hnext _ _ ⟨hJ.1.trans ((hb).mono hJ.1.size), hJ.2.1, hJ.2.2.1, hJ.2.2.2.1, hJ.2.2.2.2.1, fun _ => i, fun h => (hJ.2.2.2.2.2.2.1 h).below (hb), fun h => (hJ.2.2.2.2.2.2.2.1 h).step (hb), fun h h' => (hJ.2.2.2.2.2.2.2.2.1 h h').step (hb), fun h => (hJ.2.2.2.2.2.2.2.2.2.1 h).step (hb), fun h h' => (hJ.2.2.2.2.2.2.2.2.2.2.1 h h').step (hb), hJ.2.2.2.2.2.2.2.2.2.2.2.1, fun h => clash (hM.1) h, fun h => (hJ.2.2.2.2.2.2.2.2.2.2.2.2.2 h).step (hb)⟩
      | 2, _ =>
        refine StepAt.of (need := []) (later := []) (k := 6) (d := some 11) rfl rfl (by kernel_rfl) (by kernel_rfl) ?_
        intro L T wq ev a he hL hN hM hJ next hnext
        have e3 := (he.tmp 3).trans hJ.2.2.1
        have hcl0 := ((P1.out).step hJ.1).cell0
        have hcl1 := ((P1.out).step hJ.1).cell1
        go_simp
        exact hnext _ _ ⟨hJ.1, hJ.2.1, hJ.2.2.1, hJ.2.2.2.1, fun _ => rfl, hJ.2.2.2.2.2.1, hJ.2.2.2.2.2.2.1, hJ.2.2.2.2.2.2.2.1, hJ.2.2.2.2.2.2.2.2.1, hJ.2.2.2.2.2.2.2.2.2.1, hJ.2.2.2.2.2.2.2.2.2.2.1, hJ.2.2.2.2.2.2.2.2.2.2.2.1, hJ.2.2.2.2.2.2.2.2.2.2.2.2.1, hJ.2.2.2.2.2.2.2.2.2.2.2.2.2⟩
      | 3, _ =>
        refine StepAt.of (need := [2]) (later := [7]) (k := 6) (d := some 12) rfl rfl (by kernel_rfl) (by kernel_rfl) ?_
        intro L T wq ev a he hL hN hM hJ next hnext
        have e11 := (he.tmp 11).trans (hJ.2.2.2.2.1 (hN.1))
        have ef := he.func
        go_simp
        refine (rabs_any _ y _ (I2.out.below hJ.1)).mono ?_
        rintro e wq' ⟨v, rfl, i, hb⟩
        exact hnext _ _ ⟨hJ.1.trans ((hb).mono hJ.1.size), hJ.2.1, hJ.2.2.1, hJ.2.2.2.1, hJ.2.2.2.2.1, fun h => (hJ.2.2.2.2.2.1 h).below (hb), fun _ => i, fun h => (hJ.2.2.2.2.2.2.2.1 h).step (hb), fun h h' => (hJ.2.2.2.2.2.2.2.2.1 h h').step (hb), fun h => (hJ.2.2.2.2.2.2.2.2.2.1 h).step (hb), fun h h' => (hJ.2.2.2.2.2.2.2.2.2.2.1 h h').step (hb), hJ.2.2.2.2.2.2.2.2.2.2.2.1, fun h => (hJ.2.2.2.2.2.2.2.2.2.2.2.2.1 h).step (hb), fun h => clash (hM.1) h⟩
      | 4, _ =>
        refine StepAt.of (need := []) (later := [6]) (k := 6) (d := some 5) rfl rfl (by kernel_rfl) (by kernel_rfl) ?_
        intro L T wq ev a he hL hN hM hJ next hnext
        go_simp
        have hb := below_alloc wq (.cells #[.bool false, .slice none 0 0] 61)
        exact hnext _ _ ⟨hJ.1.trans ((hb).mono hJ.1.size), hJ.2.1, hJ.2.2.1, hJ.2.2.2.1, hJ.2.2.2.2.1, fun h => (hJ.2.2.2.2.2.1 h).below (hb), fun h => (hJ.2.2.2.2.2.2.1 h).below (hb), fun _ => PS.new hJ.1.size _, fun _ _ => PB.new hJ.1.size _ [.bool false, .slice none 0 0], fun h => (hJ.2.2.2.2.2.2.2.2.2.1 h).step (hb), fun h h' => (hJ.2.2.2.2.2.2.2.2.2.2.1 h h').step (hb), fun _ h => Ne.symm (hJ.2.2.2.2.2.2.2.2.2.1 h).ne, fun h => clash (hM.1) h, fun h => (hJ.2.2.2.2.2.2.2.2.2.2.2.2.2 h).step (hb)⟩
      | 5, _ =>
        refine StepAt.of (need := []) (later := [7]) (k := 6) (d := some 6) rfl rfl (by kernel_rfl) (by kernel_rfl) ?_
        intro L T wq ev a he hL hN hM hJ next hnext
        go_simp
        have hb := below_alloc wq (.cells #[.bool false, .slice none 0 0] 61)
        exact hnext _ _ ⟨hJ.1.trans ((hb).mono hJ.1.size), hJ.2.1, hJ.2.2.1, hJ.2.2.2.1, hJ.2.2.2.2.1, fun h => (hJ.2.2.2.2.2.1 h).below (hb), fun h => (hJ.2.2.2.2.2.2.1 h).below (hb), fun h => (hJ.2.2.2.2.2.2.2.1 h).step (hb), fun h h' => (hJ.2.2.2.2.2.2.2.2.1 h h').step (hb), fun _ => PS.new hJ.1.size _, fun _ _ => PB.new hJ.1.size _ [.bool false, .slice none 0 0], fun h _ => (hJ.2.2.2.2.2.2.2.1 h).ne, fun h => (hJ.2.2.2.2.2.2.2.2.2.2.2.2.1 h).step (hb), fun h => clash (hM.1) h⟩
      | 6, _ =>
        refine StepAt.of (need := [4, 1, 5]) (later := []) (k := 6) (d := none) rfl rfl (by kernel_rfl) (by kernel_rfl) ?_
        intro L T wq ev a he hL hN hM hJ next hnext
        obtain ⟨g, hg, hge, hbx⟩ := hJ.2.2.2.2.2.2.2.2.1 (hN.1) hL
        obtain ⟨sv, mv, nv, cv, hv, iv⟩ := (hJ.2.2.2.2.2.1 (hN.2.1)).cells
        have e5 := (he.tmp 5).trans hg
        have e10 := (he.tmp 10).trans hv
        have hc0 := hbx.cell 0 rfl
        have hf0 := hbx.free 0
        have hc1 := hbx.cell 1 rfl
        have hf1 := hbx.free 1
        have hk := keeps_all hbx (by intro c hc z e; subst e; simp at hc) [.bool sv, .slice mv nv cv] rfl
        go_simp
        exact hnext undef _ ⟨below_all hge [.bool sv, .slice mv nv cv] 0 _ hJ.1, hJ.2.1, hJ.2.2.1, hJ.2.2.2.1, hJ.2.2.2.2.1, fun h => (hJ.2.2.2.2.2.1 h).keep hk, fun h => (hJ.2.2.2.2.2.2.1 h).keep hk, fun h => (hJ.2.2.2.2.2.2.2.1 h).put [.bool sv, .slice mv nv cv], fun _ h => no_more h, fun h => (hJ.2.2.2.2.2.2.2.2.2.1 h).put [.bool sv, .slice mv nv cv], fun h h' => (hJ.2.2.2.2.2.2.2.2.2.2.1 h h').put hg (hJ.2.2.2.2.2.2.2.2.2.2.2.1 (hN.1) (hN.2.2.1)) [.bool sv, .slice mv nv cv], hJ.2.2.2.2.2.2.2.2.2.2.2.1, fun _ => PV.set' [.bool sv, .slice mv nv cv] hg hv hbx hge rfl, fun h => (hJ.2.2.2.2.2.2.2.2.2.2.2.2.2 h).put hg (hJ.2.2.2.2.2.2.2.2.2.2.2.1 (hN.1) (hN.2.2.1)) [.bool sv, .slice mv nv cv]⟩
      | 7, _ =>
        refine StepAt.of (need := [5, 3, 4]) (later := []) (k := 6) (d := none) rfl rfl (by kernel_rfl) (by kernel_rfl) ?_
        intro L T wq ev a he hL hN hM hJ next hnext
        obtain ⟨g, hg, hge, hbx⟩ := hJ.2.2.2.2.2.2.2.2.2.2.1 (hN.1) hL
        obtain ⟨sv, mv, nv, cv, hv, iv⟩ := (hJ.2.2.2.2.2.2.1 (hN.2.1)).cells
        have e6 := (he.tmp 6).trans hg
        have e12 := (he.tmp 12).trans hv
        have hc0 := hbx.cell 0 rfl
        have hf0 := hbx.free 0
        have hc1 := hbx.cell 1 rfl
        have hf1 := hbx.free 1
        have hk := keeps_all hbx (by intro c hc z e; subst e; simp at hc) [.bool sv, .slice mv nv cv] rfl
        go_simp
        exact hnext undef _ ⟨below_all hge [.bool sv, .slice mv nv cv] 0 _ hJ.1, hJ.2.1, hJ.2.2.1, hJ.2.2.2.1, hJ.2.2.2.2.1, fun h => (hJ.2.2.2.2.2.1 h).keep hk, fun h => (hJ.2.2.2.2.2.2.1 h).keep hk, fun h => (hJ.2.2.2.2.2.2.2.1 h).put [.bool sv, .slice mv nv cv], fun h h' => (hJ.2.2.2.2.2.2.2.2.1 h h').put hg (Ne.symm (hJ.2.2.2.2.2.2.2.2.2.2.2.1 (hN.2.2.1) (hN.1))) [.bool sv, .slice mv nv cv], fun h => (hJ.2.2.2.2.2.2.2.2.2.1 h).put [.bool sv, .slice mv nv cv], fun _ h => no_more h, hJ.2.2.2.2.2.2.2.2.2.2.2.1, fun h => (hJ.2.2.2.2.2.2.2.2.2.2.2.2.1 h).put hg (Ne.symm (hJ.2.2.2.2.2.2.2.2.2.2.2.1 (hN.2.2.1) (hN.1))) [.bool sv, .slice mv nv cv], fun _ => PV.set' [.bool sv, .slice mv nv cv] hg hv hbx hge rfl⟩
      | k + 8, hi => exact absurd hi (Nat.not_lt.2 (Nat.le_add_left 8 k))
    · intro L a wq hA hJ hs hd hf
      obtain ⟨gq, cs0, hp0, hge0, hv0, hb0⟩ := hJ.2.2.2.2.2.2.2.2.2.2.2.2.1 (hA.2.2.2.2.2.2.1)
      have i0 := hJ.2.2.2.2.2.1 (hA.2.1)
      obtain ⟨sa, ma, la, ka, hq0, i0⟩ := i0.cells
      rw [hq0, Value.agg.injEq] at hv0
      have hl0 : cs0 = _ := congrArg Array.toList hv0.symm
      subst hl0
      obtain ⟨gr, cs1, hp1, hge1, hv1, hb1⟩ := hJ.2.2.2.2.2.2.2.2.2.2.2.2.2 (hA.2.2.2.2.2.2.2.1)
      have i1 := hJ.2.2.2.2.2.2.1 (hA.2.2.2.1)
      obtain ⟨sb, mb, lb, kb, hq1, i1⟩ := i1.cells
      rw [hq1, Value.agg.injEq] at hv1
      have hl1 : cs1 = _ := congrArg Array.toList hv1.symm
      subst hl1
      have hne0_1 : gq ≠ gr := fun e => hJ.2.2.2.2.2.2.2.2.2.2.2.1 (hA.2.2.2.2.1) (hA.2.2.2.2.2.1) (hp0.trans (e ▸ hp1.symm))
      refine (by assumption : ∀ a' w', Met _ a' w' → _) _ _ (Met.intro ((by assumption : ∀ a' w', _ → _) _ _ ?_))
      exact ⟨a.tmps.getD 5 undef, a.tmps.getD 6 undef, a.tmps.getD 9 undef, a.tmps.getD 10 undef, a.tmps.getD 11 undef, a.tmps.getD 12 undef, a.tmps.getD 13 undef, a.tmps.getD 14 undef, a.tmps.getD 15 undef, a.tmps.getD 16 undef, a.tmps.getD 17 undef, a.tmps.getD 18 undef, a.tmps.getD 19 undef, a.tmps.getD 20 undef, a.tmps.getD 21 undef, a.tmps.getD 22 undef, a.tmps.getD 23 undef, a.tmps.getD 24 undef, a.tmps.getD 25 undef, ⟨gq, sa, ma, la, ka, gr, sb, mb, lb, kb, hp0, hge0, hb0, i0, hp1, hge1, hb1, i1, hne0_1, hJ.1⟩, act_eq _ _ [5, 6, 9, 10, 11, 12, 13, 14, 15, 16, 17, 18, 19, 20, 21, 22, 23, 24, 25] hf (by kernel_rfl) (hs.trans (by kernel_rfl)) hd (by kernel_rfl)⟩
  case rest =>
  obtain ⟨gq, sa, ma, la, ka, gr, sb, mb, lb, kb, rfl, hge0, hbx0, hi0, rfl, hge1, hbx1, hi1, hne0_1, hb⟩ := hcut
  have LTS : Hid (w.heap.size < gq ∧ (w.heap.size + 1) < gq ∧ (w.heap.size + 1 + 1) < gq ∧ w.heap.size < gr ∧ (w.heap.size + 1) < gr ∧ (w.heap.size + 1 + 1) < gr ∧ gq ≠ gr) := hide ⟨Nat.lt_of_lt_of_le P0.out.lt hge0, Nat.lt_of_lt_of_le P1.out.lt hge0, Nat.lt_of_lt_of_le P2.out.lt hge0, Nat.lt_of_lt_of_le P0.out.lt hge1, Nat.lt_of_lt_of_le P1.out.lt hge1, Nat.lt_of_lt_of_le P2.out.lt hge1, hne0_1⟩
  replace HB := hide (HB.out.trans (hb.mono HB.out.size))
  replace P2 := hide (P2.out.step hb)
  have PQ := hide hbx0
  have PR := hide hbx1
  have IQ := hide hi0
  have IR := hide hi1
  clear P0 P1 I1 I2 hge0 hge1 hbx0 hbx1 hi0 hi1 hne0_1 hb
  generalize hwc : wc = w5 at *
  clear hwc
  go_wp2
  go_loopw [7, 8] (fun u7 u8 wr => ∃ (A B : Nat) (sa : Bool) (ma : Option Addr) (la ka : Nat) (sb : Bool) (mb : Option Addr) (lb kb : Nat), Nat.gcd A B = Int.gcd x y ∧ (D.lim A).length ≤ 10000000 ∧ (D.lim B).length ≤ 10000000 ∧ Below w.heap.size w wr ∧ Box2 wr (w.heap.size + 1 + 1) 61 (.bool false) (.slice none 0 0) ∧ Box2 wr gq 61 (.bool sa) (.slice ma la ka) ∧ Box2 wr gr 61 (.bool sb) (.slice mb lb kb) ∧ RInt wr (.agg #[.bool sa, .slice ma la ka]) (A : Int) ∧ RInt wr (.agg #[.bool sb, .slice mb lb kb]) (B : Int)) (fun _ _ wr => dnumAt wr gr)
  case atStart => exact ⟨x.natAbs, y.natAbs, sa, ma, la, ka, sb, mb, lb, kb, rfl, l1, l2, HB.out, P2.out, PQ.out, PR.out, IQ.out, IR.out⟩
  case round =>
    clear HB P2 PQ PR IQ IR
    obtain ⟨A, B, sa, ma, la, ka, sb, mb, lb, kb, hg, hla, hlb, hB, h2, hq, hr, hiq, hir⟩ := hrel
    have HG := hide hg
    have HLA := hide hla
    have HLB := hide hlb
    have HB := hide hB
    have P2 := hide h2
    have PQ := hide hq
    have PR := hide hr
    have IQ := hide hiq
    have IR := hide hir
    clear hg hla hlb hB h2 hq hr hiq hir
    have PR0 := hide PR.out
    have IR0 := hide IR.out
    have HLN := hide IR.out.len
    have hkb := HLN.out.2.2.1
    have hlk := HLN.out.2.2.2
    unfold maxLen at hkb
    have r1 := PR.out.cell1
    by_cases hB0 : B = 0
    · subst hB0
      have e0 : lb = 0 := HLN.out.1 rfl
      subst e0
      have q0 := PQ.out.cell0
      have q1 := PQ.out.cell1
      have hc0 := P2.out.cell0
      have hc1 := P2.out.cell1
      have hf0 := P2.out.free 0
      have hf1 := P2.out.free 1
      go_wp2
      refine ret_ref rfl (w.heap.size + 1 + 1) _ _ _ _ rfl ((P2.out.set0 _).set1 _) rfl ?_
      exact ⟨_, rfl, by have h := IQ.out.keep (P2.out.keeps (by simp) (by simp) (.bool sa) (.slice ma la ka)); have hg := HG.out; rw [Nat.gcd_zero_right] at hg; rw [← hg]; exact h, below_put HB.out (by omega) _ _⟩
    · have hlp : 0 < lb := HLN.out.2.1 (by omega)
      have HBP := hide (Nat.pos_of_ne_zero hB0)
      clear hB0
      have r0 := PR.out.cell0
      have q0 := PQ.out.cell0
      have q1 := PQ.out.cell1
      go_wp2_with fail
      refine (rdm_any _ _ (A : Int) (B : Int) _ IQ.out IR.out (by rw [Int.natAbs_natCast]; exact HLA.out) (by rw [Int.natAbs_natCast]; exact HLB.out) (by have := HBP.out; omega)).mono ?_
      rintro e u1 ⟨vq, vr, rfl, nq, nr, hb⟩
      obtain ⟨s3, m3, l3, k3, rfl, nq⟩ := nq.cells
      obtain ⟨s4, m4, l4, k4, rfl, nr⟩ := nr.cells
      rw [← Int.natCast_emod] at nr
      replace HB := hide (HB.out.trans (hb.mono HB.out.size))
      replace P2 := hide (P2.out.step hb)
      replace PQ := hide (PQ.out.step hb)
      replace PR := hide (PR.out.step hb)
      replace IR := hide (IR.out.below hb)
      have I4 := hide nr
      clear hb nq nr r0 r1 q0 q1 IQ
      go_upto_region 4 with fail
      have al1 := below_alloc u1 (.cells #[.bool s3, .slice m3 l3 k3] 61)
      have al2 := below_alloc (u1.alloc (.cells #[.bool s3, .slice m3 l3 k3] 61)) (.cells #[.bool s4, .slice m4 l4 k4] 61)
      have al := al1.trans (al2.mono (by rw [World.size_alloc]; omega))
      have LT4 : Hid (gq < u1.heap.size ∧ gr < u1.heap.size) := hide ⟨PQ.out.lt, PR.out.lt⟩
      have P4 := Box2.new (u1.alloc (.cells #[.bool s3, .slice m3 l3 k3] 61)) 61 (.bool s4) (.slice m4 l4 k4)
      rw [World.size_alloc] at P4
      replace P4 := hide P4
      replace HB := hide (HB.out.trans (al.mono HB.out.size))
      replace P2 := hide (P2.out.step al)
      replace PQ := hide (PQ.out.step al)
      replace PR := hide (PR.out.step al)
      replace IR := hide (IR.out.below al)
      replace I4 := hide (I4.out.below al)
      clear al1 al2 al
      generalize (u1.alloc (.cells #[.bool s3, .slice m3 l3 k3] 61)).alloc (.cells #[.bool s4, .slice m4 l4 k4] 61) = u2 at *
      generalize u1.heap.size = g4 at *
      have r0 := PR.out.cell0
      have r1 := PR.out.cell1
      have rf0 := PR.out.free 0
      have rf1 := PR.out.free 1
      have q0 := PQ.out.cell0
      have q1 := PQ.out.cell1
      have qf0 := PQ.out.free 0
      have qf1 := PQ.out.free 1
      have t0 := P4.out.cell0
      have t1 := P4.out.cell1
      have hne := LTS.out.2.2.2.2.2.2
      have hlt4 := LT4.out
      obtain ⟨hl41, hl42⟩ := hlt4
      go_wp2_with fail
      go_region
      all_goals
        go_wp2
        go_roundw
        case rel =>
          refine ⟨B, A % B, sb, mb, lb, kb, s4, m4, l4, k4, by rw [← HG.out, Nat.gcd_comm A B, Nat.gcd_rec B A, Nat.gcd_comm], HLB.out, Nat.le_trans (dlen_mono (Nat.mod_le A B)) HLA.out, ?_, ?_, ?_, ?_, ?_, ?_⟩
          · exact (below_put (below_put HB.out (show w.heap.size ≤ gq by have := LTS.out; omega) (.bool sb) (.slice mb lb kb)) (show w.heap.size ≤ gr by have := LTS.out; omega) (.bool s4) (.slice m4 l4 k4)).drew
          · exact ((P2.out.other (C := gq) (by have := LTS.out; omega) (.bool sb) (.slice mb lb kb)).other (C := gr) (by have := LTS.out; omega) (.bool s4) (.slice m4 l4 k4)).drew
          · exact ((PQ.out.put (.bool sb) (.slice mb lb kb)).other (C := gr) (by have := LTS.out; omega) (.bool s4) (.slice m4 l4 k4)).drew
          · exact ((PR.out.other (C := gq) (by have := LTS.out; omega) (.bool sb) (.slice mb lb kb)).put (.bool s4) (.slice m4 l4 k4)).drew
          · exact ((IR.out.keep (PQ.out.keeps (by simp) (by simp) (.bool sb) (.slice mb lb kb))).keep ((PR.out.other (C := gq) (by have := LTS.out; omega) (.bool sb) (.slice mb lb kb)).keeps (by simp) (by simp) (.bool s4) (.slice m4 l4 k4))).drew
          · exact ((I4.out.keep (PQ.out.keeps (by simp) (by simp) (.bool sb) (.slice mb lb kb))).keep ((PR.out.other (C := gq) (by have := LTS.out; omega) (.bool sb) (.slice mb lb kb)).keeps (by simp) (by simp) (.bool s4) (.slice m4 l4 k4))).drew
        case measure =>
          have e1 := dnumAt_eq PR0.out IR0.out
          have e2 := dnumAt_eq ((PR.out.other (C := gq) (by have := LTS.out; omega) (.bool sb) (.slice mb lb kb)).put (.bool s4) (.slice m4 l4 k4)).drew ((I4.out.keep (PQ.out.keeps (by simp) (by simp) (.bool sb) (.slice mb lb kb))).keep ((PR.out.other (C := gq) (by have := LTS.out; omega) (.bool sb) (.slice mb lb kb)).keeps (by simp) (by simp) (.bool s4) (.slice m4 l4 k4))).drew
          rw [e1, e2]
          exact Nat.mod_lt _ HBP.out
end Go.Proofs.YtenmogmdijnlhaaDoor

namespace Go.Proofs.YtenmogmdijnlhaaDoor
open Go.RowKit

/-- a power of ten -/
def pw (k : Nat) : Nat := 10 ^ k

theorem Own.alloc {w : World} {base : Nat} {v : Value} {xs : List Nat} (h : Own w base v xs) (o : Obj) : Own (w.alloc o) base v xs := World.ownsRow.alloc h o

theorem Own.mono {w : World} {base base' : Nat} {v : Value} {xs : List Nat} (h : Own w base v xs) (hb : base' ≤ base) : Own w base' v xs := by
  unfold Own at *
  refine ⟨h.1, ?_⟩
  rcases h.2 with h2 | ⟨g, cap, cur, hv, hg, r⟩
  · exact .inl h2
  · exact .inr ⟨g, cap, cur, hv, Nat.le_trans hb hg, r⟩

theorem Own.lt {w : World} {base : Nat} {v : Value} {xs : List Nat} (h : Own w base v xs) : ∀ k, v.ownBlock = some k → base ≤ k ∧ k < w.heap.size := World.ownsRow.lt h

end Go.Proofs.YtenmogmdijnlhaaDoor

namespace Go.Proofs.YtenmogmdijnlhaaDoor
open Go.RowKit Go.Shelf
attribute [local go_sem] Oper.semAt_some

/-- a digit -/
abbrev Dg := { x : Nat // x < 10 }

def digsD : Nat → Nat → List Dg
  | 0, g => [⟨g % 10, Nat.mod_lt _ (by decide)⟩]
  | k + 1, g => ⟨g / 10 ^ (k + 1) % 10, Nat.mod_lt _ (by decide)⟩ :: digsD k g
def toldD : List Nat → List Dg
  | [] => []
  | [t] => digsD (nd t) t
  | g :: h :: gs => toldD (h :: gs) ++ digsD 8 g

/-- how many digits stand behind the first one of the group k -/
def jn (gs : List Nat) (k : Nat) : Nat := if k + 1 = gs.length then nd (lm gs k) else 8

/-- the blocks from lo to hi lie as they lay -/
def Keeps (lo hi : Nat) (W W' : World) : Prop := ∀ k, lo ≤ k → k < hi → W'.heap[k]? = W.heap[k]?
theorem Keeps.refl (lo hi : Nat) (W : World) : Keeps lo hi W W := fun _ _ _ => rfl
theorem Keeps.trans {lo hi : Nat} {A B C : World} (h : Keeps lo hi A B) (k : Keeps lo hi B C) : Keeps lo hi A C := fun i h1 h2 => (k i h1 h2).trans (h i h1 h2)
theorem Keeps.cell {lo hi : Nat} {W W' : World} (h : Keeps lo hi W W') {b o : Nat} (h1 : lo ≤ b) (h2 : b < hi) : W'.cell? ⟨b, o, none⟩ = W.cell? ⟨b, o, none⟩ := World.cell?_of_block (h b h1 h2)

/-- the unit at which the group k - 1 is begun -/
def un (gs : List Nat) (k : Nat) : Nat := if k = gs.length then pw (nd (lm gs (k - 1))) else 100000000
end Go.Proofs.YtenmogmdijnlhaaDoor

namespace Go.Proofs.YtenmogmdijnlhaaDoor
open Go.RowKit Go.Shelf
attribute [local go_sem] Oper.semAt_some

/-- the bytes of digits -/
def byts (ds : List Nat) : List Int := ds.map fun (d : Nat) => (48 : Int) + (d : Int)
/-- a number's text -/
def txt (n : Nat) : ByteArray := strOfNums (byts (dec n))

theorem Tryd.info5 : (Tryd.prog.info? 5).map (fun i => (i.zero, i.size, i.bytes)) = some (some (.int .u8 0), 1, 1) := by kernel_rfl

/-- the cells of digits that have come -/
def bytV (pre : List Dg) : List Value := pre.map fun (x : Dg) => Value.int .u8 ((48 : Int) + (x.1 : Int))
theorem digs_length (k n : Nat) : (digs k n).length = k + 1 := by
  induction k with
  | zero => rfl
  | succ k ih => simp [digs, ih]
theorem dec_length (n : Nat) : (dec n).length = nd n + 1 := digs_length _ _
end Go.Proofs.YtenmogmdijnlhaaDoor

namespace Go.Proofs.YtenmogmdijnlhaaDoor
open Go.RowKit

/-- what digits come to, behind a -/
def ev (a : Nat) (ds : List Nat) : Nat := ds.foldl (fun a d => a * 10 + d) a
theorem digs_get (k g i : Nat) (h : i ≤ k) : (digs k g)[i]? = some (g / 10 ^ (k - i) % 10) := by
  induction k generalizing i with
  | zero => have : i = 0 := by omega
            subst this; simp [digs]
  | succ k ih =>
    cases i with
    | zero => simp [digs]
    | succ i => rw [digs, List.getElem?_cons_succ, ih i (by omega), Nat.add_sub_add_right]
theorem bt_str (xs : List Int) (i : Nat) (n : Nat) (h : xs[i]? = some (n : Int)) (hn : n < 256) : bt (strOfNums xs) i = n := by
  obtain ⟨hi, he⟩ := List.getElem?_eq_some_iff.1 h
  have hs : i < (strOfNums xs).size := by rw [strOfNums_size]; exact hi
  rw [← bt_get _ _ hs]
  have : (strOfNums xs)[i] = UInt8.ofNat (xs[i].toNat) := by
    show (strOfNums xs).data[i]'hs = _
    simp [strOfNums]
  rw [this, he]
  simp
  omega
theorem bt_byts (ds : List Nat) (i d : Nat) (h : ds[i]? = some d) (hd : d ≤ 9) : bt (strOfNums (byts ds)) i = 48 + d := by
  refine bt_str _ _ (48 + d) ?_ (by omega)
  unfold byts
  rw [List.getElem?_map, h]; rfl
theorem txt_size (n : Nat) : (txt n).size = nd n + 1 := by unfold txt; rw [strOfNums_size]; unfold byts; rw [List.length_map, dec_length]
theorem nv_ge (s : ByteArray) (k : Nat) (h : Good s (k + 1)) (h0 : bt s 0 ≠ 48) : 10 ^ k ≤ nv s (k + 1) := by
  induction k with
  | zero => have := (h 0 (by omega)).lo; simp [nv]; omega
  | succ k ih =>
    have := ih fun j hj => h j (by omega)
    rw [nv, pow_succ10]; omega
theorem nv_div (s : ByteArray) (j k : Nat) (h : Good s (k + j)) : nv s (k + j) / 10 ^ j = nv s k := by
  induction j with
  | zero => simp
  | succ j ih =>
    have := ih fun i hi => h i (by omega)
    have f := h (k + j) (by omega)
    have := f.lo
    have := f.hi
    rw [← Nat.add_assoc, nv, pow_succ10, ← Nat.div_div_eq_div_mul, show (nv s (k + j) * 10 + (bt s (k + j) - 48)) / 10 = nv s (k + j) by omega]
    assumption
theorem nv_nd (s : ByteArray) (k : Nat) (h : Good s (k + 1)) : nd (nv s (k + 1)) = k := by
  refine nd_unique (nv_lt s _ h) ?_
  rcases Nat.eq_zero_or_pos k with h0 | h0
  · exact .inl h0
  · exact .inr (nv_ge s k h ((h 1 (by omega)).lead (Nat.le_refl _)))
theorem byte_of (s : ByteArray) (i : Nat) (h : i < s.size) : UInt8.ofNat (bt s i) = s[i] := by
  rw [← bt_get s i h]; simp
/-- a text in which nothing is wrong is that of its number -/
theorem good_txt (s : ByteArray) (h0 : 0 < s.size) (h : Good s s.size) : txt (nv s s.size) = s := by
  obtain ⟨k, hk⟩ : ∃ k, s.size = k + 1 := ⟨s.size - 1, by omega⟩
  have hnd := nv_nd s k (hk ▸ h)
  rw [hk] at h ⊢
  apply ByteArray.ext
  apply Array.ext
  · show (txt (nv s (k + 1))).size = s.size
    rw [txt_size, hnd, hk]
  · intro i h1 h2
    have hi : i < k + 1 := by have : i < s.size := h2; omega
    have hg : (dec (nv s (k + 1)))[i]? = some (bt s i - 48) := by
      unfold dec
      rw [hnd, digs_get k _ i (by omega)]
      have e : nv s (k + 1) / 10 ^ (k - i) = nv s (i + 1) := by
        have := nv_div s (k - i) (i + 1) (by rw [show i + 1 + (k - i) = k + 1 by omega]; exact h)
        rwa [show i + 1 + (k - i) = k + 1 by omega] at this
      have f := h i hi
      have := f.lo
      have := f.hi
      rw [e, nv]
      congr 1
      omega
    have f := h i hi
    have f1 := f.lo
    have f2 := f.hi
    have hb := bt_byts _ _ _ hg (by omega)
    have e1 := byte_of (txt (nv s (k + 1))) i h1
    have e2 := byte_of s i h2
    have e3 : bt (txt (nv s (k + 1))) i = bt s i := by unfold txt; rw [hb]; omega
    rw [e3] at e1
    exact e1.symm.trans e2
end Go.Proofs.YtenmogmdijnlhaaDoor

namespace Go.Proofs.YtenmogmdijnlhaaDoor
open Go.RowKit Go.Shelf
attribute [local go_sem] Oper.semAt_some

/-- the row lies below lo or from hi on -/
def AsideV (lo hi : Nat) (v : Value) : Prop := ∀ j, v.ownBlock = some j → j < lo ∨ hi ≤ j

/-- a number's text -/
def itxt (z : Int) : ByteArray := strOfNums ((if z < 0 then [45] else []) ++ byts (dec z.natAbs))
theorem itxt_pos (n : Nat) : Ending.returned (.string (strOfNums (byts (dec n)))) = .returned (.string (itxt (sg false n))) := by
  unfold itxt; rw [sg_abs, if_neg (by simp)]; rfl
theorem itxt_neg (n : Nat) (h : n ≠ 0) : Ending.returned (.string (strOfNums ([(45 : Int)] ++ byts (dec n)))) = .returned (.string (itxt (sg true n))) := by
  unfold itxt; rw [sg_abs, if_pos (by simp; omega)]
end Go.Proofs.YtenmogmdijnlhaaDoor

namespace Go.Proofs.YtenmogmdijnlhaaDoor
open Go.RowKit

theorem str_app (xs ys : List Int) : strOfNums (xs ++ ys) = strOfNums xs ++ strOfNums ys := by
  apply ByteArray.ext
  simp [strOfNums, ByteArray.data_append]
theorem head_rest (s : ByteArray) (h : hp s 45 = true) : strOfNums [45] ++ rest1 s = s := by
  obtain ⟨h0, hb⟩ := hp_yes h
  have e : s.extract 0 1 = strOfNums [45] := by
    rw [ext1 s h0]
    have := byte_of s 0 h0
    rw [hb] at this
    rw [← this]; rfl
  unfold rest1
  rw [← e, ByteArray.extract_append_extract]
  simp

theorem IRd.same {s : ByteArray} {z z' : Int} {a b a' b' : Nat} (h : IRd s z a b) (k : IRd s z' a' b') : z = z' ∧ a = a' ∧ b = b' := by
  rcases h with ⟨h1, rfl, rfl, rfl⟩ | ⟨h1, h2, h3, rfl, rfl, rfl⟩ | ⟨h1, h2, xs, c, d, hr, h3⟩ <;>
  rcases k with ⟨k1, rfl, rfl, rfl⟩ | ⟨k1, k2, k3, rfl, rfl, rfl⟩ | ⟨k1, k2, ys, c', d', kr, k3⟩
  · exact ⟨rfl, rfl, rfl⟩
  · omega
  · omega
  · omega
  · exact ⟨rfl, rfl, rfl⟩
  · exact absurd ⟨h2, h3⟩ k2
  · omega
  · exact absurd ⟨k2, k3⟩ h2
  · obtain ⟨rfl, rfl, rfl⟩ := hr.same kr
    rcases h3 with ⟨p, rfl, rfl, rfl⟩ | ⟨p, rfl, rfl, rfl⟩ <;> rcases k3 with ⟨q, rfl, rfl, rfl⟩ | ⟨q, rfl, rfl, rfl⟩
    · exact ⟨rfl, rfl, rfl⟩
    · exact absurd q p
    · exact absurd p q
    · exact ⟨rfl, rfl, rfl⟩
/-- what is read is told as the text -/
theorem IRd.told {s : ByteArray} {z : Int} {b : Nat} (h : IRd s z 0 b) : itxt z = s ∧ s.size ≤ 65536 ∧ b = 0 := by
  rcases h with ⟨h1, _, h, _⟩ | ⟨h1, h2, h3, _, h, _⟩ | ⟨h1, h2, xs, c, d, hr, h3⟩
  · omega
  · omega
  · rcases h3 with ⟨p, _, q, _⟩ | ⟨rfl, rfl, _, rfl⟩
    · omega
    refine ⟨?_, h1, rfl⟩
    rcases hr with ⟨_, _, h, _⟩ | ⟨_, _, h, _⟩ | ⟨_, i, _, _, _, _, h, _⟩ | ⟨_, g0, g, rfl, _, _⟩
    · omega
    · omega
    · omega
    rw [val_lim]
    have ht := good_txt _ g0 g
    unfold txt at ht
    cases hc : hp s 45 with
    | false =>
      have ed : cutP s 45 = s := by unfold cutP; rw [hc]; rfl
      rw [ed] at ht g0 g ⊢
      have := itxt_pos (nv s s.size)
      simp only [Ending.returned.injEq, Value.string.injEq] at this
      rw [← this]; exact ht
    | true =>
      have ed : cutP s 45 = rest1 s := by unfold cutP; rw [hc]; rfl
      rw [ed] at ht g0 g ⊢
      have hz : nv (rest1 s) (rest1 s).size ≠ 0 := by
        intro hz
        obtain ⟨k, hk⟩ : ∃ k, (rest1 s).size = k + 1 := ⟨(rest1 s).size - 1, by omega⟩
        by_cases h48 : bt (rest1 s) 0 = 48
        · exact h2 ⟨hc, by unfold hp; exact decide_eq_true ⟨g0, h48⟩⟩
        · have := nv_ge (rest1 s) k (hk ▸ g) h48
          have := pow_pos10 k
          rw [hk] at hz
          omega
      have := itxt_neg _ hz
      simp only [Ending.returned.injEq, Value.string.injEq] at this
      rw [← this, str_app, ht]; exact head_rest s hc
end Go.Proofs.YtenmogmdijnlhaaDoor

namespace Go.Proofs.YtenmogmdijnlhaaDoor
open Go.RowKit

def byV (xs : List Nat) : List Value := xs.map fun (x : Nat) => Value.int .u8 (x : Int)
theorem byV_get (xs : List Nat) (i : Nat) (h : i < xs.length) : (byV xs)[i]? = some (.int .u8 (lm xs i : Nat)) := by
  simp [byV, lm, h]
theorem byV_set (xs : List Nat) (i x : Nat) : (byV xs).set i (.int .u8 (x : Nat)) = byV (xs.set i x) := by simp [byV, List.map_set]
/-- a list of bytes, owned -/
def OwnB (w : World) (base : Nat) (v : Value) (xs : List Nat) : Prop := w.ownsRow base 5 1 v xs.length (byV xs)
def RowB (w : World) (base g n cap : Nat) (xs : List Nat) : Prop := w.ownsRow base 5 1 (.slice (some ⟨g, 0, none⟩) n cap) n (byV xs)
theorem OwnB.lt {w : World} {base : Nat} {v : Value} {xs : List Nat} (h : OwnB w base v xs) : ∀ k, v.ownBlock = some k → base ≤ k ∧ k < w.heap.size := World.ownsRow.lt h
theorem OwnB.below {w w' : World} {base : Nat} {v : Value} {xs : List Nat} (h : OwnB w base v xs) (hb : Below w.heap.size w w') : OwnB w' base v xs := by
  unfold OwnB at *
  refine h.kept (row := none) ⟨hb.os, hb.tape, hb.output, hb.size, fun k hk _ => hb.block k hk⟩ ?_
  cases hv : v.ownBlock <;> simp
theorem OwnB.row {w : World} {base : Nat} {v : Value} {xs : List Nat} (h : OwnB w base v xs) (hp : 0 < xs.length) : ∃ g cap, v = .slice (some ⟨g, 0, none⟩) xs.length cap ∧ cap ≤ maxLen ∧ xs.length ≤ cap ∧ base ≤ g ∧ RowB w base g xs.length cap xs := by
  rcases h.2 with ⟨_, h0⟩ | ⟨g, cap, cur, rfl, hb, hg, hnc, hcm, hcs, ht⟩
  · omega
  · exact ⟨g, cap, rfl, hcm, hnc, hb, h⟩
theorem RowB.cell {w : World} {base g n cap : Nat} {xs : List Nat} (h : RowB w base g n cap xs) (hl : xs.length = n) (i : Nat) (hi : i < n) : w.cell? ⟨g, i, none⟩ = some (.int .u8 (lm xs i : Nat)) := by
  rw [World.ownsRow.cellAt h i (by omega), byV_get _ _ (by omega)]
theorem RowB.free {w : World} {base g n cap : Nat} {xs : List Nat} (h : RowB w base g n cap xs) (i : Nat) : w.frozen? ⟨g, i, none⟩ = false := World.ownsRow.frozenAt h i
theorem RowB.set {w : World} {base g n cap : Nat} {xs : List Nat} (h : RowB w base g n cap xs) (i x : Nat) : RowB (w.setCell ⟨g, i, none⟩ (.int .u8 (x : Nat))) base g n cap (xs.set i x) := by
  have := (World.ownsRow.stored h i (.int .u8 (x : Nat))).1
  rw [byV_set] at this; exact this
/-- one more byte behind what is owned -/
theorem ownb_step {w5 w6 w1 : World} {base T : Nat} {v5 v6 : Value} {acc : List Nat} {x : Int} {n : Nat} (hx : x = (n : Int)) {o : Obj} (hO : OwnB w5 base v5 acc)
    (hown6 : w6.ownsRow base 5 1 v6 (acc.length + 1) (byV acc ++ [Value.int .u8 x])) (hgrow6 : (w5.alloc o).grownBy w6 v5.ownBlock) (hB5 : Below T w1 w5) (hT : T ≤ w5.heap.size) (hb : T ≤ base) :
    OwnB w6 base v6 (acc ++ [n]) ∧ Below T w1 w6 := by
  constructor
  · subst hx
    have e1 : byV acc ++ [Value.int .u8 (n : Int)] = byV (acc ++ [n]) := by simp [byV]
    rw [e1] at hown6
    show World.ownsRow _ _ _ _ _ _ _; simpa using hown6
  · exact (hB5.alloc hT o).grown hgrow6 (by simp; omega) (fun k hk => Nat.le_trans hb (hO.lt k hk).1)
theorem apart {w : World} {b1 b2 : Nat} {u v : Value} {xs ys : List Nat} (h : Own w b1 u xs) (k : OwnB w b2 v ys) : u.ownBlock = none ∨ u.ownBlock ≠ v.ownBlock := by
  rcases h.2 with ⟨rfl, _⟩ | ⟨g, cap, cur, rfl, _, hg, _⟩
  · exact .inl rfl
  · rcases k.2 with ⟨rfl, _⟩ | ⟨g', cap', cur', rfl, _, hg', _⟩
    · exact .inr (by simp [Value.ownBlock])
    · refine .inr (fun e => ?_)
      simp only [Value.ownBlock, Option.some.injEq] at e
      subst e
      rw [hg] at hg'
      simp at hg'
/-- the low digits, low one first, as signs -/
def lowr (j N : Nat) : List Nat := (List.range j).map fun i => 48 + N / 10 ^ i % 10
theorem lowr_length (j N : Nat) : (lowr j N).length = j := by simp [lowr]
theorem lowr_succ (j N : Nat) : lowr (j + 1) N = lowr j N ++ [48 + N / 10 ^ j % 10] := by simp [lowr, List.range_succ]
theorem lowr_rev (k N : Nat) : (lowr (k + 1) N).reverse = (digs k N).map (48 + ·) := by
  apply List.ext_getElem?
  intro i
  by_cases h : i ≤ k
  · rw [List.getElem?_reverse (by rw [lowr_length]; omega), List.getElem?_map, digs_get k N i h, lowr_length]
    rw [lowr, List.getElem?_map, List.getElem?_range (by omega)]
    simp only [Option.map_some, show k + 1 - 1 - i = k - i by omega]
  · rw [List.getElem?_eq_none (by rw [List.length_reverse, lowr_length]; omega), List.getElem?_eq_none (by rw [List.length_map, digs_length]; omega)]

/-- i pairs swapped, from the ends on -/
def fl (xs : List Nat) : Nat → List Nat
  | 0 => xs
  | i + 1 => ((fl xs i).set i (lm xs (xs.length - 1 - i))).set (xs.length - 1 - i) (lm xs i)
theorem fl_length (xs : List Nat) (i : Nat) : (fl xs i).length = xs.length := by
  induction i with
  | zero => rfl
  | succ i ih => simp [fl, ih]
theorem fl_at (xs : List Nat) (i j : Nat) (hi : 2 * i ≤ xs.length) (hj : j < xs.length) : lm (fl xs i) j = if j < i ∨ xs.length - i ≤ j then lm xs (xs.length - 1 - j) else lm xs j := by
  induction i generalizing j with
  | zero => rw [if_neg (by omega)]; rfl
  | succ i ih =>
    have e1 : ∀ (ys : List Nat) (p x q : Nat), p < ys.length → lm (ys.set p x) q = if p = q then x else lm ys q := by
      intro ys p x q hp
      unfold lm
      rw [List.getD_eq_getElem?_getD, List.getD_eq_getElem?_getD, List.getElem?_set]
      by_cases h : p = q
      · subst h; simp [hp]
      · simp [h]
    rw [fl, e1 _ _ _ _ (by rw [List.length_set, fl_length]; omega), e1 _ _ _ _ (by rw [fl_length]; omega), ih j (by omega) hj]
    by_cases c1 : xs.length - 1 - i = j
    · rw [if_pos c1, if_pos (by omega)]; congr 1; omega
    · rw [if_neg c1]
      by_cases c2 : i = j
      · rw [if_pos c2, if_pos (by omega), c2]
      · rw [if_neg c2]
        by_cases c3 : j < i ∨ xs.length - i ≤ j
        · rw [if_pos c3, if_pos (by omega)]
        · rw [if_neg c3, if_neg (by omega)]
theorem fl_end (xs : List Nat) : fl xs (xs.length / 2) = xs.reverse := by
  apply List.ext_getElem (by rw [fl_length, List.length_reverse])
  intro j h1 h2
  rw [fl_length] at h1
  have := fl_at xs (xs.length / 2) j (by omega) h1
  rw [lm_get _ _ (by rw [fl_length]; exact h1)] at this
  rw [this, List.getElem_reverse]
  by_cases c : j < xs.length / 2 ∨ xs.length - xs.length / 2 ≤ j
  · rw [if_pos c, lm_get _ _ (by omega)]
  · rw [if_neg c, ← lm_get _ _ (by omega)]; congr 1; omega

theorem lowr_byts {N j : Nat} (hj : 0 < j) (h1 : N < 10 ^ j) (h2 : 10 ^ (j - 1) ≤ N) : (lowr j N).reverse = (dec N).map (48 + ·) := by
  obtain ⟨k, rfl⟩ : ∃ k, j = k + 1 := ⟨j - 1, by omega⟩
  rw [lowr_rev]
  unfold dec
  rw [nd_unique h1 (.inr h2)]
theorem byts_map (ds : List Nat) : (ds.map (48 + ·)).map (fun (x : Nat) => (x : Int)) = byts ds := by
  simp [byts]
/-- a number of so many digits to the base 65536 has no more decimal ones than that -/
theorem ddig_few {N j k : Nat} (h : (D.lim N).length ≤ k) (hj : j = 0 ∨ 10 ^ (j - 1) ≤ N) : j ≤ 16 * k + 1 := by
  rcases hj with h0 | h0
  · omega
  · have h1 : N < D.BB ^ k := by
      have := D.val_lt (D.ok_lim N)
      rw [D.val_lim] at this
      exact Nat.lt_of_lt_of_le this (Nat.pow_le_pow_right D.BB_pos h)
    have h2 : 2 ^ (j - 1) ≤ 10 ^ (j - 1) := Nat.pow_le_pow_left (by decide) _
    have h3 : D.BB ^ k = 2 ^ (16 * k) := by rw [show D.BB = 2 ^ 16 from rfl, ← Nat.pow_mul]
    have h4 : 2 ^ (j - 1) < 2 ^ (16 * k) := by rw [← h3]; exact Nat.lt_of_le_of_lt (Nat.le_trans h2 h0) h1
    have := (Nat.pow_lt_pow_iff_right (by decide)).1 h4
    omega
theorem dlim_digit {r : Nat} (h : r < 65536) (h0 : r ≠ 0) : D.lim r = [r] := by
  have hB : r < D.BB := h
  rw [D.lim_pos (Nat.pos_of_ne_zero h0), Nat.div_eq_of_lt hB, Nat.mod_eq_of_lt hB]; rfl

theorem Own.lower2 {w : World} {base base' : Nat} {v : Value} {xs : List Nat} (h : Own w base v xs) (hb : base' ≤ base) : Own w base' v xs := by
  refine ⟨h.1, ?_⟩
  rcases h.2 with k | ⟨g, cap, cur, e, hg, r⟩
  · exact .inl k
  · exact .inr ⟨g, cap, cur, e, Nat.le_trans hb hg, r⟩
def lenV : Value → Nat
  | .slice _ n _ => n
  | _ => 0
theorem OwnB.len {w : World} {base : Nat} {v : Value} {xs : List Nat} (h : OwnB w base v xs) : lenV v = xs.length := by
  rcases h.2 with ⟨rfl, h0⟩ | ⟨g, cap, cur, rfl, _⟩
  · exact h0.symm
  · rfl
theorem OwnB.shape {w : World} {base : Nat} {v : Value} {xs : List Nat} (h : OwnB w base v xs) : ∃ a c, v = .slice a xs.length c ∧ xs.length ≤ c ∧ c ≤ maxLen := by
  rcases h.2 with ⟨rfl, h0⟩ | ⟨g, cap, cur, rfl, _, _, h1, h2, _⟩
  · exact ⟨none, 0, by rw [h0], by omega, Nat.zero_le _⟩
  · exact ⟨_, cap, rfl, h1, h2⟩

set_option maxRecDepth 100000 in
set_option maxHeartbeats 4000000 in
theorem rtext2_any (v : Value) (z : Int) (w : World) (h : RInt w v z) (hl : (D.lim z.natAbs).length ≤ 1000000) :
    Calls Tryd.prog 28 #[v] w fun e w' => e = .returned (.string (itxt z)) ∧ Below w.heap.size w w' := by
  obtain ⟨i0, hi, hz0, hz1, hz2⟩ := info_parts Tryd.info5
  obtain ⟨b, N, a, c, rfl, hn, hz, h0⟩ := h
  rw [hz, sg_abs] at hl
  have HLE := hide hl
  have HT : Hid (itxt z = strOfNums ((if b then [45] else []) ++ byts (dec N))) := hide (by
    rw [hz]
    cases b with
    | false => have := itxt_pos N; simp only [Ending.returned.injEq, Value.string.injEq] at this; rw [← this]; rfl
    | true => have := itxt_neg N (fun e => absurd (h0 e) (by decide)); simp only [Ending.returned.injEq, Value.string.injEq] at this; rw [← this]; rfl)
  have HBX := hide (Box2.new w 61 (.bool b) (.slice a (D.lim N).length c))
  have HN := hide (hn.below (below_alloc w (.cells #[.bool b, .slice a (D.lim N).length c] 61)))
  have H0 := hide h0
  clear hn hl h0 hz
  have hbx0 := HBX.out.cell0
  have hbx1 := HBX.out.cell1
  go_enter Tryd.func28, Tryd.ntmps28
  go_wp2
  clear hbx0 hbx1
  go_loopw [3, 4, 5, 6, 7] (fun lv dv qv rv cv wr => ∃ j : Nat, OwnB wr (w.heap.size + 1) lv (lowr j N) ∧ Nums wr dv (D.lim (N / 10 ^ j)) ∧ (lv = .slice none 0 0 ∨ Own wr (w.heap.size + 1) dv (D.lim (N / 10 ^ j))) ∧ (j = 0 ∨ 10 ^ (j - 1) ≤ N) ∧ Below (w.heap.size + 1) (w.alloc (.cells #[.bool b, .slice a (D.lim N).length c] 61)) wr) (fun lv _ _ _ _ _ => 16 * 1000000 + 2 - lenV lv)
  case atStart => exact ⟨0, World.ownsRow_nil _ _ _ _, by simpa using HN.out, .inl rfl, .inl rfl, Below.refl _ _⟩
  case round =>
    obtain ⟨j, hO, hN, hA, hj, hbel⟩ := hrel
    obtain ⟨wo, rfl⟩ : ∃ wo, wo = wr := ⟨_, rfl⟩
    have HO := hide hO
    have HNd := hide hN
    have HA := hide hA
    have HJ := hide hj
    have HBE := hide hbel
    have HB2 := hide (HBX.out.below hbel (Nat.lt_succ_self _))
    have HBW := hide ((below_alloc w (.cells #[.bool b, .slice a (D.lim N).length c] 61)).trans (hbel.mono (Nat.le_succ _)))
    have hjb := ddig_few HLE.out hj
    obtain ⟨la, lc, hlv, hlc1, hlc2⟩ := hO.shape
    rw [lowr_length] at hlv hlc1
    subst hlv
    unfold maxLen at hlc2
    clear hO hA hj hbel
    by_cases hm0 : N / 10 ^ j = 0
    · have HM0 := hide hm0
      rw [hm0, D.lim_zero] at hN
      obtain ⟨_, da, dc, rfl, _, hmd, _⟩ := hN
      simp only [List.length_nil]
      clear hm0 hmd
      have HEND : Hid (j = 0 → N = 0) := hide (fun h => by have := HM0.out; rw [h] at this; simpa using this)
      have HLT : Hid (0 < j → (lowr j N).reverse = (dec N).map (48 + ·)) := hide (fun hj0 => by
        have hlt : N < 10 ^ j := by
          rcases Nat.lt_or_ge N (10 ^ j) with h | h
          · exact h
          · have := Nat.div_pos h (pow_pos10 j); have := HM0.out; omega
        exact lowr_byts hj0 hlt (by rcases HJ.out with h | h; omega; exact h))
      have hb0 := HB2.out.cell0
      by_cases hj0 : j = 0
      · subst hj0
        have e : N = 0 := HEND.out rfl
        subst e
        have hbf : b = false := H0.out rfl
        subst hbf
        go_wp2
        go_ret
        exact ⟨by rw [HT.out]; rfl, HBW.out⟩
      · have hjp : 0 < j := by omega
        have hjz : ((j : Int) == 0) = false := by rw [beq_eq_false_iff_ne]; omega
        cases b with
        | false =>
          obtain ⟨X, hX⟩ : ∃ X, X = lowr j N := ⟨_, rfl⟩
          have HX : Hid (OwnB wo (w.heap.size + 1) (.slice la j lc) X) := hide (by rw [hX]; exact HO.out)
          have HXN : Hid (X.length = j) := hide (by rw [hX, lowr_length])
          have HXL : Hid (X.length ≤ 16000001) := hide (by rw [hX, lowr_length]; omega)
          have HXR : Hid (X.reverse.map (fun (x : Nat) => (x : Int)) = (if false then [45] else []) ++ byts (dec N)) := hide (by rw [hX, HLT.out hjp, byts_map]; rfl)
          clear hX HO HNd HA HBE HB2
          obtain ⟨g, cap, he, hcm, hnc, hbg, hrow⟩ := HX.out.row (by have := HXN.out; omega)
          simp only [Value.slice.injEq] at he
          obtain ⟨rfl, hjX, rfl⟩ := he
          rw [hjX]
          clear hjX
          have HRW := hide hrow
          have HBG := hide hbg
          unfold maxLen at hcm
          obtain ⟨n, hn⟩ : ∃ n, n = X.length := ⟨_, rfl⟩
          have HNN := hide hn
          rw [← hn] at hnc hrow HRW ⊢
          have hnp : 0 < n := by have := HXN.out; omega
          have hnb : n ≤ 16000010 := by have := HXL.out; omega
          clear hrow hbg hn HX
          go_wp2
          go_loopw [8] (fun iv wr => ∃ i : Nat, i ≤ n / 2 ∧ iv = .int .i64 i ∧ RowB wr (w.heap.size + 1) g n lc (fl X i) ∧ Below w.heap.size w wr) (fun iv _ => n - (intOf iv).toNat)
          case atStart => exact ⟨0, Nat.zero_le _, rfl, HRW.out, HBW.out⟩
          case round =>
            clear HRW HBW
            obtain ⟨i, hi2, rfl, hrow, hbel⟩ := hrel
            have hfl : (fl X i).length = n := by rw [fl_length]; exact HNN.out.symm
            by_cases hlt : i < n / 2
            · have hc1 := hrow.cell hfl i (by omega)
              have hc2 := hrow.cell hfl (n - 1 - i) (by omega)
              rw [fl_at X i i (by have := HNN.out; omega) (by have := HNN.out; omega), if_neg (by have := HNN.out; omega)] at hc1
              rw [fl_at X i (n - 1 - i) (by have := HNN.out; omega) (by have := HNN.out; omega), if_neg (by have := HNN.out; omega)] at hc2
              have hf1 := hrow.free i
              have hf2 := hrow.free (n - 1 - i)
              have HRW := hide hrow
              have HBW := hide hbel
              have HFL := hide hfl
              clear hrow hbel hfl
              have ht : ((n : Int) - 1 - (i : Int)) = ((n - 1 - i : Nat) : Int) := by omega
              have hltI : (i : Int) < (n : Int) / 2 := by omega
              obtain ⟨p, hp⟩ : ∃ p, p = n - 1 - i := ⟨_, rfl⟩
              have HP := hide hp
              rw [← hp] at hc2 hf2 ht
              have hpn : p < n := by omega
              have hip : i < p := by omega
              have hin : i < n := by omega
              clear hp
              go_wp2
              go_region
              all_goals
                go_wp2
                go_roundw
                case rel =>
                  refine ⟨i + 1, by omega, by go_num, ?_, ?_⟩
                  · have h1 := (HRW.out.set i (lm X p)).set p (lm X i)
                    rw [HP.out, HNN.out] at h1
                    rw [HP.out, HNN.out]
                    exact h1
                  · exact ((HBW.out.setCell (p := ⟨g, i, none⟩) (by have := HBG.out; show _ ≤ g; omega) _).setCell (p := ⟨g, p, none⟩) (by have := HBG.out; show _ ≤ g; omega) _).drew
                case measure => simp [intOf]; omega
            · have e : i = n / 2 := by omega
              subst e
              have hfe := fl_end X
              rw [← HNN.out] at hfe
              rw [hfe] at hrow
              obtain ⟨Y, hY⟩ : ∃ Y, Y = X.reverse.map (fun (x : Nat) => (x : Int)) := ⟨_, rfl⟩
              have HY := hide hY
              have hconv := run_convert_bytes_arg (P := Tryd.prog) wr 88 5 Tryd.underlying88 Tryd.underlying5 g 0 n lc Y (by rw [hY, List.length_map, List.length_reverse]; exact HNN.out.symm) (by
                intro k hk
                have hk' : k < X.reverse.length := by rw [List.length_reverse, ← HNN.out]; exact hk
                rw [show 0 + k = k from by omega, World.ownsRow.cellAt hrow k (by omega), byV_get _ _ hk', hY]
                simp only [lm, List.getD_eq_getElem?_getD, List.getElem?_map, List.getElem?_eq_getElem hk']
                rfl) 9 Tryd.underlying9
              clear hY
              have HBW := hide hbel
              clear hrow hbel hfl hfe
              go_wp2
              go_ret
              refine ⟨?_, HBW.out⟩
              rw [HT.out, ← HXR.out, ← HY.out]
              rfl
        | true =>
          have hlen := lowr_length j N
          have hbs : w.heap.size + 1 ≤ wo.heap.size := by have := HBE.out.size; rw [World.size_alloc] at this; omega
          go_wp2_with (at_builtin; refine wpList_append_own _ rfl _ _ 88 rfl (w.heap.size + 1) 5 i0 (.int .u8 0) 1 1 Tryd.underlying88 hi hz0 hz1 hz2 rfl (by decide) _ _ _ rfl (World.ownsRow.alloc HO.out _) ⟨_, 0, none⟩ 1 1 [.int .u8 45] rfl rfl ?_ ?_ ?_ ?_ ?_ ?_)
          · rfl
          · unfold maxLen; omega
          · omega
          · first | omega | (simp; omega)
          · intro v6 w6 hown6 hgrow6 _
            skip
            obtain ⟨hO6, hB6⟩ := ownb_step (n := 45) rfl HO.out (by rw [lowr_length]; exact hown6) hgrow6 HBW.out (by have := HBE.out.size; rw [World.size_alloc] at this; omega) (Nat.le_succ _)
            obtain ⟨X, hX⟩ : ∃ X, X = lowr j N ++ [45] := ⟨_, rfl⟩
            have HX : Hid (OwnB w6 (w.heap.size + 1) v6 X) := hide (by rw [hX]; exact hO6)
            have HXN : Hid (X.length = j + 1) := hide (by rw [hX, List.length_append, lowr_length]; rfl)
            have HXL : Hid (X.length ≤ 16000002) := hide (by have := HXN.out; omega)
            have HXR : Hid (X.reverse.map (fun (x : Nat) => (x : Int)) = (if true then [45] else []) ++ byts (dec N)) := hide (by rw [hX, List.reverse_append, HLT.out hjp, List.map_append, byts_map]; rfl)
            have HBV := hide hB6
            clear hX HO HNd HA HBE HB2 HBW hown6 hgrow6 hO6 hB6 hb0
            have HBW := hide HBV.out
            clear HBV
            obtain ⟨g, cap, rfl, hcm, hnc, hbg, hrow⟩ := HX.out.row (by have := HXN.out; omega)
            have HRW := hide hrow
            have HBG := hide hbg
            unfold maxLen at hcm
            obtain ⟨n, hn⟩ : ∃ n, n = X.length := ⟨_, rfl⟩
            have HNN := hide hn
            rw [← hn] at hnc hrow HRW ⊢
            have hnp : 0 < n := by have := HXN.out; omega
            have hnb : n ≤ 16000010 := by have := HXL.out; omega
            clear hrow hbg hn HX
            go_wp2
            go_loopw [8] (fun iv wr => ∃ i : Nat, i ≤ n / 2 ∧ iv = .int .i64 i ∧ RowB wr (w.heap.size + 1) g n cap (fl X i) ∧ Below w.heap.size w wr) (fun iv _ => n - (intOf iv).toNat)
            case atStart => exact ⟨0, Nat.zero_le _, rfl, HRW.out, HBW.out⟩
            case round =>
              clear HRW HBW
              obtain ⟨i, hi2, rfl, hrow, hbel⟩ := hrel
              have hfl : (fl X i).length = n := by rw [fl_length]; exact HNN.out.symm
              by_cases hlt : i < n / 2
              · have hc1 := hrow.cell hfl i (by omega)
                have hc2 := hrow.cell hfl (n - 1 - i) (by omega)
                rw [fl_at X i i (by have := HNN.out; omega) (by have := HNN.out; omega), if_neg (by have := HNN.out; omega)] at hc1
                rw [fl_at X i (n - 1 - i) (by have := HNN.out; omega) (by have := HNN.out; omega), if_neg (by have := HNN.out; omega)] at hc2
                have hf1 := hrow.free i
                have hf2 := hrow.free (n - 1 - i)
                have HRW := hide hrow
                have HBW := hide hbel
                have HFL := hide hfl
                clear hrow hbel hfl
                have ht : ((n : Int) - 1 - (i : Int)) = ((n - 1 - i : Nat) : Int) := by omega
                have hltI : (i : Int) < (n : Int) / 2 := by omega
                obtain ⟨p, hp⟩ : ∃ p, p = n - 1 - i := ⟨_, rfl⟩
                have HP := hide hp
                rw [← hp] at hc2 hf2 ht
                have hpn : p < n := by omega
                have hip : i < p := by omega
                have hin : i < n := by omega
                clear hp
                go_wp2
                go_region
                all_goals
                  go_wp2
                  go_roundw
                  case rel =>
                    refine ⟨i + 1, by omega, by go_num, ?_, ?_⟩
                    · have h1 := (HRW.out.set i (lm X p)).set p (lm X i)
                      rw [HP.out, HNN.out] at h1
                      rw [HP.out, HNN.out]
                      exact h1
                    · exact ((HBW.out.setCell (p := ⟨g, i, none⟩) (by have := HBG.out; show _ ≤ g; omega) _).setCell (p := ⟨g, p, none⟩) (by have := HBG.out; show _ ≤ g; omega) _).drew
                  case measure => simp [intOf]; omega
              · have e : i = n / 2 := by omega
                subst e
                have hfe := fl_end X
                rw [← HNN.out] at hfe
                rw [hfe] at hrow
                obtain ⟨Y, hY⟩ : ∃ Y, Y = X.reverse.map (fun (x : Nat) => (x : Int)) := ⟨_, rfl⟩
                have HY := hide hY
                have hconv := run_convert_bytes_arg (P := Tryd.prog) wr 88 5 Tryd.underlying88 Tryd.underlying5 g 0 n cap Y (by rw [hY, List.length_map, List.length_reverse]; exact HNN.out.symm) (by
                  intro k hk
                  have hk' : k < X.reverse.length := by rw [List.length_reverse, ← HNN.out]; exact hk
                  rw [show 0 + k = k from by omega, World.ownsRow.cellAt hrow k (by omega), byV_get _ _ hk', hY]
                  simp only [lm, List.getD_eq_getElem?_getD, List.getElem?_map, List.getElem?_eq_getElem hk']
                  rfl) 9 Tryd.underlying9
                clear hY
                have HBW := hide hbel
                clear hrow hbel hfl hfe
                go_wp2
                go_ret
                refine ⟨?_, HBW.out⟩
                rw [HT.out, ← HXR.out, ← HY.out]
                rfl
    · have HM0 := hide (Nat.pos_of_ne_zero hm0)
      have HDM : Hid (N / 10 ^ (j + 1) = N / 10 ^ j / 10) := hide (by rw [Nat.pow_succ, Nat.div_div_eq_div_mul])
      have HDG : Hid (10 ^ j ≤ N) := hide (by
        rcases Nat.lt_or_ge N (10 ^ j) with h | h
        · rw [Nat.div_eq_of_lt h] at hm0; exact absurd rfl hm0
        · exact h)
      have hjb2 := ddig_few (j := j + 1) HLE.out (.inr (by simpa using HDG.out))
      have HLM : Hid ((D.lim (N / 10 ^ j)).length ≤ 1000000) := hide (Nat.le_trans (D.lim_length_le (Nat.lt_of_le_of_lt (Nat.div_le_self _ _) (by have := D.val_lt (D.ok_lim N); rw [D.val_lim] at this; exact this))) HLE.out)
      obtain ⟨m, hm⟩ : ∃ m, m = N / 10 ^ j := ⟨_, rfl⟩
      have HME := hide hm
      rw [← hm] at hN
      clear hm hm0
      rw [← HME.out] at HM0 HLM HDM HNd HA
      have hpl : 0 < (D.lim m).length := by rw [D.lim_pos HM0.out]; simp
      have hl6 := HLM.out
      obtain ⟨_, da, dc, rfl, hlc, hmc, hcc⟩ := hN
      unfold maxLen at hmc
      clear hcc
      generalize hL : (D.lim m).length = L at *
      go_wp2_with fail
      refine (rdiv1_any _ _ m 10 _ (HNd.out.below (below_alloc _ _)) (dnums_lit wo 10 10 rfl (by decide)).1 (by decide) (by decide) (by omega)).mono ?_
      rintro e w3 ⟨qv, rv, rfl, hq, hr, hb3⟩
      have hal := below_alloc wo (.cells #[.int .u32 10] 87)
      have hb3' := hal.trans (hb3.mono (by rw [World.size_alloc]; omega))
      have HQ := hide (Own.lower2 hq (base' := (w.heap.size + 1)) (by have := HBE.out.size; rw [World.size_alloc] at this ⊢; omega))
      replace HO := hide (HO.out.below hb3')
      replace HBW := hide (HBW.out.trans (hb3'.mono HBW.out.size))
      replace HBE := hide (HBE.out.trans (hb3'.mono (by have := HBE.out.size; rw [World.size_alloc] at this; omega)))
      have hlen := lowr_length j N
      have hbs : w.heap.size + 1 ≤ w3.heap.size := by have := HBE.out.size; rw [World.size_alloc] at this; omega
      have HRV := hide hr
      clear hq hr hb3 hal hb3' HNd HA HB2
      have hr10 : m % 10 < 10 := Nat.mod_lt _ (by decide)
      have HDD : Hid (N / 10 ^ j % 10 = m % 10) := hide (by rw [HME.out])
      obtain ⟨r, hr⟩ : ∃ r, r = m % 10 := ⟨_, rfl⟩
      rw [← hr] at HRV HDD hr10
      clear hr
      by_cases hr0 : r = 0
      · subst hr0
        have hrv := HRV.out
        rw [D.lim_zero] at hrv
        obtain ⟨_, ra, rc, rfl, _, hmr, _⟩ := hrv
        simp only [List.length_nil]
        clear hmr HRV
        go_wp2_with (at_builtin; refine wpList_append_own _ rfl _ _ 88 rfl (w.heap.size + 1) 5 i0 (.int .u8 0) 1 1 Tryd.underlying88 hi hz0 hz1 hz2 rfl (by decide) _ _ _ rfl (World.ownsRow.alloc HO.out _) ⟨_, 0, none⟩ 1 1 [.int .u8 (48)] rfl rfl ?_ ?_ ?_ ?_ ?_ ?_)
        · intro i u hi'
          match i, hi' with
          | 0, hi' => simp at hi'; subst hi'; simp [Addr.add]
        · intro u hu; simp at hu; subst hu; rfl
        · unfold maxLen; omega
        · omega
        · simp; omega
        · intro v6 w6 hown6 hgrow6 _
          have HQ6 := hide (World.ownsRow.kept (World.ownsRow.alloc HQ.out _) hgrow6 (by have := apart HQ.out HO.out; simpa using this))
          obtain ⟨hO6, hB6⟩ := ownb_step (x := 48) (n := (48 + 0)) (by omega) HO.out (by rw [lowr_length]; exact hown6) hgrow6 HBE.out (by have := HBE.out.size; rw [World.size_alloc] at this; omega) (Nat.le_refl _)
          have HO6 : Hid (OwnB w6 (w.heap.size + 1) v6 (lowr (j + 1) N)) := hide (by rw [lowr_succ, HDD.out]; exact hO6)
          have HB6 := hide hB6
          clear hown6 hgrow6 hO6 hB6
          go_wp2
          go_roundw
          case rel => exact ⟨j + 1, HO6.out, by rw [HDM.out]; exact Own.nums HQ6.out (dok (D.ok_lim _)), .inr (by rw [HDM.out]; exact HQ6.out), .inr (by simpa using HDG.out), HB6.out⟩
          case measure => rw [HO6.out.len, lowr_length]; simp only [lenV]; omega
      · have hrv := HRV.out
        rw [dlim_digit (by omega) hr0] at hrv
        obtain ⟨_, ra, rc, rfl, hrc, hmr, hcr⟩ := hrv
        obtain ⟨rb, ro, rfl, hcs⟩ := hcr (by simp)
        have hrc0 : w3.cell? ⟨rb, ro, none⟩ = some (.int .u32 (r : Nat)) := by have := hcs 0 (by simp); simpa [lm] using this
        simp only [List.length_cons, List.length_nil, Nat.zero_add] at hrc ⊢
        unfold maxLen at hmr
        clear hcr hcs HRV
        go_wp2_with (at_builtin; refine wpList_append_own _ rfl _ _ 88 rfl (w.heap.size + 1) 5 i0 (.int .u8 0) 1 1 Tryd.underlying88 hi hz0 hz1 hz2 rfl (by decide) _ _ _ rfl (World.ownsRow.alloc HO.out _) ⟨_, 0, none⟩ 1 1 [.int .u8 (48 + (r : Int))] rfl rfl ?_ ?_ ?_ ?_ ?_ ?_)
        · intro i u hi'
          match i, hi' with
          | 0, hi' => simp at hi'; subst hi'; simp [Addr.add]
        · intro u hu; simp at hu; subst hu; rfl
        · unfold maxLen; omega
        · omega
        · simp; omega
        · intro v6 w6 hown6 hgrow6 _
          have HQ6 := hide (World.ownsRow.kept (World.ownsRow.alloc HQ.out _) hgrow6 (by have := apart HQ.out HO.out; simpa using this))
          obtain ⟨hO6, hB6⟩ := ownb_step (x := 48 + (r : Int)) (n := (48 + r)) (by omega) HO.out (by rw [lowr_length]; exact hown6) hgrow6 HBE.out (by have := HBE.out.size; rw [World.size_alloc] at this; omega) (Nat.le_refl _)
          have HO6 : Hid (OwnB w6 (w.heap.size + 1) v6 (lowr (j + 1) N)) := hide (by rw [lowr_succ, HDD.out]; exact hO6)
          have HB6 := hide hB6
          clear hown6 hgrow6 hO6 hB6
          go_wp2
          go_roundw
          case rel => exact ⟨j + 1, HO6.out, by rw [HDM.out]; exact Own.nums HQ6.out (dok (D.ok_lim _)), .inr (by rw [HDM.out]; exact HQ6.out), .inr (by simpa using HDG.out), HB6.out⟩
          case measure => rw [HO6.out.len, lowr_length]; simp only [lenV]; omega
end Go.Proofs.YtenmogmdijnlhaaDoor

namespace Go.Proofs.YtenmogmdijnlhaaDoor
open Go.RowKit

theorem digs_snoc (k : Nat) : ∀ u : Nat, digs (k + 1) u = digs k (u / 10) ++ [u % 10] := by
  induction k with
  | zero => intro u; simp [digs]
  | succ k ih =>
    intro u
    have e : digs (k + 1 + 1) u = (u / 10 ^ (k + 1 + 1) % 10) :: digs (k + 1) u := rfl
    have e2 : digs (k + 1) (u / 10) = (u / 10 / 10 ^ (k + 1) % 10) :: digs k (u / 10) := rfl
    rw [e, ih u, e2, Nat.div_div_eq_div_mul, ← pow_succ10]
    rfl
theorem nd_ten {u : Nat} (h : ¬ u < 10) : nd u = nd (u / 10) + 1 := by
  obtain ⟨a, b⟩ := nd_spec (u / 10)
  refine nd_unique ?_ (.inr ?_)
  · rw [pow_succ10]; omega
  · rw [pow_succ10]
    rcases b with b | b
    · rw [b]; simp; omega
    · omega
theorem dg_dec : ∀ u : Nat, Lib.decDigits u = (dec u).map fun d => UInt8.ofNat (48 + d) := by
  intro u
  induction u using Nat.strongRecOn with
  | _ u ih =>
    by_cases h : u < 10
    · rw [Lib.decDigits_one h]
      have : nd u = 0 := nd_unique (by simpa using h) (.inl rfl)
      unfold dec
      rw [this]
      simp [digs, Nat.mod_eq_of_lt h]
    · rw [Lib.decDigits, dif_neg h, ih (u / 10) (by omega)]
      unfold dec
      rw [nd_ten h, digs_snoc, List.map_append]
      rfl
theorem itB_itxt (n : Int) : itxt n = itB n := by
  unfold itxt itB strOfNums Lib.itoa
  apply ByteArray.ext
  show (List.map _ _).toArray = _
  congr 1
  have e : ∀ u : Nat, (byts (dec u)).map (fun n : Int => UInt8.ofNat n.toNat) = Lib.decDigits u := fun u => by
    rw [dg_dec]
    unfold byts
    rw [List.map_map]
    apply List.map_congr_left
    intro d _
    show UInt8.ofNat ((48 : Int) + (d : Int)).toNat = _
    congr 1
  by_cases h : n < 0
  · rw [if_pos h, if_pos h, List.map_append, e]
    rfl
  · rw [if_neg h, if_neg h, List.nil_append, e]
    congr 1
    omega
theorem dlen64 {z : Int} (hlo : -9223372036854775808 ≤ z) (hhi : z ≤ 9223372036854775807) : (D.lim z.natAbs).length ≤ 4 := by
  refine D.lim_length_le (k := 4) ?_
  have : D.BB ^ 4 = 18446744073709551616 := by decide
  omega

set_option maxRecDepth 100000 in
set_option maxHeartbeats 2000000 in
theorem fig_any (n : Int) (w : World) (hlo : -9223372036854775808 ≤ n) (hhi : n ≤ 9223372036854775807) :
    Calls Tryd.prog 59 #[.int .i64 n] w fun e w' => e = .returned (.string (itB n)) ∧ Below w.heap.size w w' := by
  go_enter Tryd.func59, Tryd.ntmps59
  go_wp2_with fail
  refine (rof_any n w hlo hhi).mono ?_
  rintro e w1 ⟨v, rfl, hv, hb⟩
  have HB := hide hb
  have HV := hide hv
  clear hb hv
  go_wp2_with fail
  refine (rtext2_any v n w1 HV.out (by have := dlen64 hlo hhi; omega)).mono ?_
  rintro e w2 ⟨rfl, hb⟩
  rw [itB_itxt]
  replace HB := hide (HB.out.trans (hb.mono HB.out.size))
  clear hb HV
  go_wp2
  go_ret
  exact ⟨rfl, HB.out⟩
theorem cmpZ_eq0 (x y : Int) : (cmpZ x y == 0) = decide (x = y) := by
  unfold cmpZ
  by_cases h : x < y
  · rw [if_pos h, decide_eq_false (by omega)]; rfl
  · rw [if_neg h]
    by_cases h2 : x = y
    · rw [if_pos h2, decide_eq_true h2]; rfl
    · rw [if_neg h2, decide_eq_false h2]; rfl
set_option maxRecDepth 100000 in
set_option maxHeartbeats 2000000 in
theorem rsameP_any (v1 v2 : Value) (x y : Int) (w : World) (h1 : RInt w v1 x) (h2 : RInt w v2 y) :
    Calls Tryd.prog 53 #[v1, v2] w fun e w' => e = .returned (.bool (decide (x = y))) ∧ Below w.heap.size w w' := by
  obtain ⟨s1, m1, n1, c1, rfl, i1⟩ := h1.cells
  obtain ⟨s2, m2, n2, c2, rfl, i2⟩ := h2.cells
  have HE := hide (nboxes2 61 w (.bool s1) (.slice m1 n1 c1) (.bool s2) (.slice m2 n2 c2))
  have I1 := hide (i1.below HE.out.2.2)
  have I2 := hide (i2.below HE.out.2.2)
  have HB := hide HE.out.2.2
  clear h1 h2 i1 i2 HE
  go_enter Tryd.func53, Tryd.ntmps53
  go_wp2_with fail
  refine (rcmp_any _ _ x y _ I1.out I2.out).mono ?_
  rintro e w1 ⟨rfl, hb⟩
  have C := hide (cmpZ_eq0 x y)
  generalize cmpZ x y = c at *
  replace HB := hide (HB.out.trans (hb.mono HB.out.size))
  clear hb I1 I2
  go_wp2
  go_ret
  exact ⟨by rw [← C.out]; rfl, HB.out⟩
end Go.Proofs.YtenmogmdijnlhaaDoor
