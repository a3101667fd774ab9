/- swagelaw04.RowDivides answers true at all rows and numbers, and turns nothing that was there. -/
import Derived.Test.YtejkjdjobeabfaaWRDiv
import Derived.Test.YtejkjdjobeabfaaWLive
import Derived.Test.YtejkjdjobeabfaaWOf
import Derived.Test.YtejkjdjobeabfaaWOne
import Derived.RegionTactic
namespace Go.Proofs.Ytejkjdjobeabfaa
open Go.RowKit

theorem numl1S (w : World) (b1 : Bool) (m1 : Option Addr) (c1 : Nat) (xs : List Nat) (t : TypeId) (h1 : Nums w (.slice m1 xs.length c1) xs) (l1 : xs.length ≤ 140737488355328) :
    NumL (w.alloc (.cells #[.bool b1, .slice m1 xs.length c1] t)) (.slice (some ⟨w.heap.size, 0, none⟩) 1 1) [(b1, xs)] := by
  have hh : (w.alloc (.cells #[.bool b1, .slice m1 xs.length c1] t)).heap[w.heap.size]? = some (.cells #[.bool b1, .slice m1 xs.length c1] t (0, 0)) := heap_alloc_new _ _
  have g1 := h1.below (below_alloc w (.cells #[.bool b1, .slice m1 xs.length c1] t))
  generalize w.alloc (.cells #[.bool b1, .slice m1 xs.length c1] t) = W at *
  refine ⟨_, 1, rfl, Nat.le_refl _, by decide, fun i => ?_, fun _ => ⟨_, 0, rfl, fun i hi => ?_⟩⟩
  · match i with
    | 0 => exact l1
    | i + 1 => show (([] : List (Bool × List Nat)).getD i (false, [])).2.length ≤ _; simp
  · match i, hi with
    | 0, _ => exact ⟨m1, c1, by unfold World.cell?; simp only [hh]; rfl, by unfold World.cell?; simp only [hh]; rfl, g1⟩
theorem numll2S (w : World) (va vb : Value) (ns ms : List (Bool × List Nat)) (t : TypeId) (h1 : NumL w va ns) (h2 : NumL w vb ms) : NumLL (w.alloc (.cells #[va, vb] t)) (.slice (some ⟨w.heap.size, 0, none⟩) 2 2) [ns, ms] := by
  have hh : (w.alloc (.cells #[va, vb] t)).heap[w.heap.size]? = some (.cells #[va, vb] t (0, 0)) := heap_alloc_new _ _
  have g1 := h1.below (below_alloc w (.cells #[va, vb] t))
  have g2 := h2.below (below_alloc w (.cells #[va, vb] t))
  generalize w.alloc (.cells #[va, vb] t) = W at *
  refine ⟨_, 2, rfl, Nat.le_refl _, by unfold maxLen; decide, fun _ => ⟨_, 0, rfl, fun i hi => ?_⟩⟩
  match i, hi with
  | 0, _ => exact ⟨va, by unfold World.cell?; simp only [hh]; rfl, g1⟩
  | 1, _ => exact ⟨vb, by unfold World.cell?; simp only [hh]; rfl, g2⟩
theorem irow_intsS {w : World} {b n : Nat} {zs : List Int} (h : IRow w b zs) (hn : zs.length = n) (hl : n ≤ maxLen) : Ints w (.slice (some ⟨b, 0, none⟩) n n) zs := by subst hn; exact h.ints hl
theorem few_lenMS {ns : List (Bool × List Nat)} (h : Few ns) (i : Nat) : (ns.getD i (false, [])).2.length ≤ 1000000 := by
  rcases Nat.lt_or_ge i ns.length with hi | hi
  · exact Nat.le_trans (h.2 i hi) (by decide)
  · rw [List.getD_eq_getElem?_getD, List.getElem?_eq_none hi]; simp
theorem own_row (b n : Nat) (ys : List Int) (va vb : Value) (zs : List Int) (W w : World) (hn : ys.length = n) (hW : Below W.heap.size W w) (hb : W.heap.size ≤ b) (hr : IRow w b ys) (hl : n ≤ 4000000000) (h1 : Ints W va zs) (h2 : RInts W vb zs) (hz : ∀ i, (lim (zs.getD i 0).natAbs).length ≤ 1000000000) :
    Calls Try.prog 19 #[.slice (some ⟨b, 0, none⟩) n n, va, vb] w fun e w' => e = .returned (.bool true) ∧ KeptBut b w w' ∧ Below W.heap.size W w' := by
  subst hn; exact own_yes b ys va vb zs W w hW hb hr hl h1 h2 hz
theorem Box.kept {b g : Nat} {w w' : World} {x y : Value} (h : Box w g x y) (hk : KeptBut b w w') (hne : g ≠ b) : Box w' g x y := (hk.block g h.lt hne).trans h
theorem over_scale (xs : List Int) (m : Int) : overE (scL xs m) m (scL xs m).length = 0 :=
  overE_zero _ fun i _ => by rw [scL_at]; exact ⟨xs.getD i 0, by rw [Int.mul_comm]⟩
theorem over_back (xs : List Int) {m : Int} (hm : m ≠ 0) : ((List.range (scL xs m).length).map fun i => (scL xs m).getD i 0 / m) = xs := by
  refine list_ext (by simp [scL_len]) fun i _ => ?_
  rw [getD_map]
  split
  · rw [scL_at, Int.mul_ediv_cancel _ hm]
  · rename_i h; rw [scL_len] at h; rw [getD_over (by omega)]
theorem qoL_sz {k : Nat} {xs : List Int} {c : Int} (h : SzL k xs) : SzL k (qoL xs c) := fun i => by
  unfold qoL; rw [getD_map]
  split
  · have := h i; unfold SzI at this ⊢; exact Nat.lt_of_le_of_lt (Int.natAbs_ediv_le_natAbs _ _) this
  · exact SzI.zero.mono (Nat.zero_le _)
set_option maxRecDepth 100000 in
set_option maxHeartbeats 16000000 in
theorem rdivides_walk (aa mc : Option Addr) (ca cc : Nat) (cn : Bool) (ns : List (Bool × List Nat)) (xc : List Nat) (w : World)
    (h1 : NumL w (.slice aa ns.length ca) ns) (h3 : Nums w (.slice mc xc.length cc) xc) (l3 : xc.length ≤ 140737488355328) :
    Calls Try.prog 4 #[.slice aa ns.length ca, .agg #[.bool cn, .slice mc xc.length cc]] w fun e w' => e = .returned (.bool true) ∧ Below w.heap.size w w' := by
  have N1 := hide h1
  have N3 := hide h3
  have L3 := hide l3
  have hla : ns.length ≤ 140737488355328 := by obtain ⟨a, c, he, k1, k2, _⟩ := h1; simp only [Value.slice.injEq] at he; omega
  clear h1 h3 l3
  have C0 := hide (Box2.new w 25 (.bool cn) (.slice mc xc.length cc))
  have HB := hide (below_alloc w (.cells #[.bool cn, .slice mc xc.length cc] 25))
  go_enter Try.func4, Try.ntmps4
  go_wp2_with fail
  generalize w.alloc (.cells #[.bool cn, .slice mc xc.length cc] 25) = w0 at *
  refine (rlive_any _).mono ?_
  rintro e w1 ⟨rfl, hb⟩
  replace HB := hide (HB.out.trans ((hb).mono HB.out.size))
  replace C0 := hide (C0.out.step (hb))
  clear hb
  have c0 := C0.out.cell0
  have c1 := C0.out.cell1
  go_wp2_with fail
  clear c0 c1
  have al := below_alloc w1 (.cells #[.bool cn, .slice mc xc.length cc] 25)
  have NL2 := hide (numl1S w1 cn mc cc xc 25 (N3.out.below HB.out) L3.out)
  replace HB := hide (HB.out.trans ((al).mono HB.out.size))
  replace C0 := hide (C0.out.step (al))
  clear al
  have hsz : (w1.alloc (.cells #[.bool cn, .slice mc xc.length cc] 25)).heap.size = w1.heap.size + 1 := World.size_alloc _ _
  rw [← hsz]
  clear hsz
  generalize w1.alloc (.cells #[.bool cn, .slice mc xc.length cc] 25) = w2 at *
  obtain ⟨gl, hgl⟩ : ∃ gl, w1.heap.size = gl := ⟨_, rfl⟩
  rw [hgl] at NL2 ⊢
  clear hgl
  refine (rlong_any _ [ns, [(cn, xc)]] _ (numll2S w2 _ _ ns [(cn, xc)] 22 (N1.out.below HB.out) NL2.out)).mono ?_
  rintro e w3 ⟨⟨r, rfl, hr⟩, rfl⟩
  have al := below_alloc w2 (.cells #[.slice aa ns.length ca, .slice (some ⟨gl, 0, none⟩) 1 1] 22)
  replace HB := hide (HB.out.trans ((al).mono HB.out.size))
  replace C0 := hide (C0.out.step (al))
  clear al NL2
  generalize w2.alloc (.cells #[.slice aa ns.length ca, .slice (some ⟨gl, 0, none⟩) 1 1] 22) = w3 at *
  cases r with
  | true =>
    go_wp2
    go_ret
    exact ⟨rfl, HB.out⟩
  | false =>
  have FA : Hid (Few ns) := hide (hr rfl 0 (by simp))
  have FD : Hid (Few [(cn, xc)]) := hide (hr rfl 1 (by simp))
  clear hr
  have LC : Hid (xc.length ≤ 300) := hide (FD.out.2 0 (by simp))
  clear FD
  go_wp2_with fail
  refine (rowof_any _ ns _ (N1.out.below HB.out) (Nat.le_trans FA.out.1 (by decide)) (few_lenMS FA.out)).mono ?_
  rintro e w4 ⟨vA, uA, rfl, hi, hr, hb⟩
  replace HB := hide (HB.out.trans ((hb).mono HB.out.size))
  replace C0 := hide (C0.out.step (hb))
  have XA := hide hi
  have PA := hide hr
  clear hi hr hb
  have SX := hide (numsZ_sz N1.out FA.out)
  have LX : Hid ((numsZ ns).length ≤ 300) := hide (by have := FA.out.1; simpa [numsZ] using this)
  have NC := hide (N3.out.below HB.out)
  have SM : Hid (SzI 300 (sg cn (val xc))) := hide (SzI.of N3.out.ok LC.out)
  clear N1 N3 FA L3
  generalize numsZ ns = xs at *
  obtain ⟨m, hm⟩ : ∃ m, sg cn (val xc) = m := ⟨_, rfl⟩
  have HM := hide hm
  rw [hm] at SM
  clear hm
  go_upto_region 6 with fail
  go_cut [7, 8] from 20 (fun p1 p2 wx => ∃ ga gb sa ma la ca' sb mb lb cb', p1 = .pointer (some ⟨ga, 0, none⟩) ∧ p2 = .pointer (some ⟨gb, 0, none⟩) ∧ Box wx ga (.bool sa) (.slice ma la ca') ∧ Box2 wx gb 39 (.bool sb) (.slice mb lb cb') ∧ IntAt wx (.agg #[.bool sa, .slice ma la ca']) m ∧ RInt wx (.agg #[.bool sb, .slice mb lb cb']) m ∧ Below w4.heap.size w4 wx)
  case first =>
    refine wp_calm (fun w' => Below w4.heap.size w4 w') (fun _ => true) 14 #[false, false, false, false, false, false, false, false, false, false, false, false, false, false] (by as_aux_lemma => kernel_rfl) rfl rfl ?_
    have HF := hide ((Below.refl w4.heap.size w4).drew)
    generalize w4.drew = w4d at *
    refine Calm.take (i := 0) (v := ?_) (a' := ?_) (l' := #[true, false, false, false, false, false, false, false, false, false, false, false, false, false]) (d := some 32) rfl (by as_aux_lemma => kernel_rfl) (by as_aux_lemma => kernel_rfl) (by as_aux_lemma => kernel_rfl) (by as_aux_lemma => kernel_rfl) (fun _ _ _ h => h) HF.out rfl ?_ rfl rfl ?_ ?_
    rotate_left
    · intro w' hF; clear hF; go_simp; try rfl
    rotate_left
    · simp only [Act.put]; exact rfl
    refine Calm.take (i := 1) (v := ?_) (a' := ?_) (l' := #[true, true, false, false, false, false, false, false, false, false, false, false, false, false]) (d := some 33) rfl (by as_aux_lemma => kernel_rfl) (by as_aux_lemma => kernel_rfl) (by as_aux_lemma => kernel_rfl) (by as_aux_lemma => kernel_rfl) (fun _ _ _ h => h) HF.out rfl ?_ rfl rfl ?_ ?_
    rotate_left
    · intro w' hF; have f0 := (C0.out.step hF).cell0; have f1 := (C0.out.step hF).cell1; clear hF; go_simp; try rfl
    rotate_left
    · simp only [Act.put]; exact rfl
    refine Calm.take (i := 2) (v := ?_) (a' := ?_) (l' := #[true, true, true, false, false, false, false, false, false, false, false, false, false, false]) (d := some 34) rfl (by as_aux_lemma => kernel_rfl) (by as_aux_lemma => kernel_rfl) (by as_aux_lemma => kernel_rfl) (by as_aux_lemma => kernel_rfl) (fun _ _ _ h => h) HF.out rfl ?_ rfl rfl ?_ ?_
    rotate_left
    · intro w' hF; clear hF; go_simp; try rfl
    rotate_left
    · simp only [Act.put]; exact rfl
    refine Calm.take (i := 3) (v := ?_) (a' := ?_) (l' := #[true, true, true, true, false, false, false, false, false, false, false, false, false, false]) (d := some 35) rfl (by as_aux_lemma => kernel_rfl) (by as_aux_lemma => kernel_rfl) (by as_aux_lemma => kernel_rfl) (by as_aux_lemma => kernel_rfl) (fun _ _ _ h => h) HF.out rfl ?_ rfl rfl ?_ ?_
    rotate_left
    · intro w' hF; have f0 := (C0.out.step hF).cell0; have f1 := (C0.out.step hF).cell1; clear hF; go_simp; try rfl
    rotate_left
    · simp only [Act.put]; exact rfl
    refine Calm.take (i := 5) (v := ?_) (a' := ?_) (l' := #[true, true, true, true, false, true, false, false, false, false, false, false, false, false]) (d := some 37) rfl (by as_aux_lemma => kernel_rfl) (by as_aux_lemma => kernel_rfl) (by as_aux_lemma => kernel_rfl) (by as_aux_lemma => kernel_rfl) (fun _ _ _ h => h) HF.out rfl ?_ rfl rfl ?_ ?_
    rotate_left
    · intro w' hF; clear hF; go_simp; try rfl
    rotate_left
    · simp only [Act.put]; exact rfl
    refine Calm.take (i := 6) (v := ?_) (a' := ?_) (l' := #[true, true, true, true, false, true, true, false, false, false, false, false, false, false]) (d := some 38) rfl (by as_aux_lemma => kernel_rfl) (by as_aux_lemma => kernel_rfl) (by as_aux_lemma => kernel_rfl) (by as_aux_lemma => kernel_rfl) (fun _ _ _ h => h) HF.out rfl ?_ rfl rfl ?_ ?_
    rotate_left
    · intro w' hF; have f0 := (C0.out.step hF).cell0; have f1 := (C0.out.step hF).cell1; clear hF; go_simp; try rfl
    rotate_left
    · simp only [Act.put]; exact rfl
    refine Calm.take (i := 7) (v := ?_) (a' := ?_) (l' := #[true, true, true, true, false, true, true, true, false, false, false, false, false, false]) (d := some 39) rfl (by as_aux_lemma => kernel_rfl) (by as_aux_lemma => kernel_rfl) (by as_aux_lemma => kernel_rfl) (by as_aux_lemma => kernel_rfl) (fun _ _ _ h => h) HF.out rfl ?_ rfl rfl ?_ ?_
    rotate_left
    · intro w' hF; clear hF; go_simp; try rfl
    rotate_left
    · simp only [Act.put]; exact rfl
    refine Calm.take (i := 8) (v := ?_) (a' := ?_) (l' := #[true, true, true, true, false, true, true, true, true, false, false, false, false, false]) (d := some 40) rfl (by as_aux_lemma => kernel_rfl) (by as_aux_lemma => kernel_rfl) (by as_aux_lemma => kernel_rfl) (by as_aux_lemma => kernel_rfl) (fun _ _ _ h => h) HF.out rfl ?_ rfl rfl ?_ ?_
    rotate_left
    · intro w' hF; have f0 := (C0.out.step hF).cell0; have f1 := (C0.out.step hF).cell1; clear hF; go_simp; try rfl
    rotate_left
    · simp only [Act.put]; exact rfl
    refine Calm.three (i := 4) (j := 10) (m := 11) (l := #[true, true, true, true, true, true, true, true, true, false, false, false, false, false]) (l' := #[true, true, true, true, false, true, true, true, true, false, true, false, false, false]) (l'' := #[true, true, true, true, false, true, true, true, true, false, false, true, false, false]) (by as_aux_lemma => kernel_rfl) rfl rfl rfl rfl rfl rfl rfl rfl rfl (fun K hK => ?_) (fun K hK => ?_) (fun K hK => ?_)
    · go_simp
      refine (make_any cn _ xc _ (NC.out.below HF.out) (by have := LC.out; omega)).mono ?_
      rintro e u1 ⟨v, rfl, i, hb⟩
      rw [HM.out] at i
      obtain ⟨sa, ma, la, ca', rfl, i⟩ := i.cells
      have HF' := hide (HF.out.trans ((hb).mono HF.out.size))
      have T1 := hide (i)
      refine hK _ _ (fun _ => HF'.out) ?_
      clear hK K HF hb i
      have HF := hide HF'.out
      clear HF'
      refine Calm.three (i := 9) (j := 10) (m := 11) (l := #[true, true, true, true, true, true, true, true, true, true, false, false, false, false]) (l' := #[true, true, true, true, true, true, true, true, true, false, true, false, false, false]) (l'' := #[true, true, true, true, true, true, true, true, true, false, false, true, false, false]) (by as_aux_lemma => kernel_rfl) rfl rfl rfl rfl rfl rfl rfl rfl rfl (fun K hK => ?_) (fun K hK => ?_) (fun K hK => ?_)
      · go_simp
        refine (rmake_any cn _ xc _ (NC.out.below HF.out) (by have := LC.out; omega)).mono ?_
        rintro e u2 ⟨v, rfl, i, hb⟩
        rw [HM.out] at i
        obtain ⟨sb, mb, lb, cb', rfl, i⟩ := i.cellsW
        replace T1 := hide (T1.out.below (hb))
        have HF' := hide (HF.out.trans ((hb).mono HF.out.size))
        have T2 := hide (i)
        refine hK _ _ (fun _ => HF'.out) ?_
        clear hK K HF hb i
        have HF := hide HF'.out
        clear HF'
        refine Calm.two (i := 10) (j := 11) (l := #[true, true, true, true, true, true, true, true, true, true, true, false, false, false]) (l' := #[true, true, true, true, true, true, true, true, true, true, false, true, false, false]) (by as_aux_lemma => kernel_rfl) rfl rfl rfl rfl rfl rfl (fun K hK => ?_) (fun K hK => ?_)
        · go_simp
          have al := below_alloc u2 (.cells #[.bool false, .slice none 0 0] 36)
          have HF' := hide (HF.out.trans ((al).mono HF.out.size))
          have BXa := hide (Box.new u2 (.bool false) (.slice none 0 0))
          replace T1 := hide (T1.out.below (al))
          replace T2 := hide (T2.out.below (al))
          have GEa := hide (HF.out.size)
          refine hK _ _ (fun _ => HF'.out) ?_
          clear hK K HF al
          have HF := hide HF'.out
          clear HF'
          generalize u2.alloc (.cells #[.bool false, .slice none 0 0] 36) = wza at *
          generalize u2.heap.size = ga at *
          refine Calm.one (i := 11) (l' := #[true, true, true, true, true, true, true, true, true, true, true, true, false, false]) (by as_aux_lemma => kernel_rfl) rfl rfl rfl fun K hK => ?_
          go_simp
          have al := below_alloc wza (.cells #[.bool false, .slice none 0 0] 39)
          have HF' := hide (HF.out.trans ((al).mono HF.out.size))
          have BXb := hide (Box2.new wza 39 (.bool false) (.slice none 0 0))
          replace T1 := hide (T1.out.below (al))
          replace T2 := hide (T2.out.below (al))
          have LTab := hide (BXa.out.lt)
          replace BXa := hide (BXa.out.step al)
          have GEb := hide (HF.out.size)
          refine hK _ _ (fun _ => HF'.out) ?_
          clear hK K HF al
          have HF := hide HF'.out
          clear HF'
          generalize wza.alloc (.cells #[.bool false, .slice none 0 0] 39) = wzb at *
          generalize wza.heap.size = gb at *
          refine Calm.one (i := 12) (l' := #[true, true, true, true, true, true, true, true, true, true, true, true, true, false]) (by as_aux_lemma => kernel_rfl) rfl rfl rfl fun K hK => ?_
          first | (have LTS := hide (And.intro GEa.out (And.intro GEb.out (Nat.ne_of_lt LTab.out)))) | (have LTS := hide (And.intro GEa.out (And.intro GEb.out (Nat.ne_of_gt LTba.out))))
          have hc0 := BXa.out.cell0
          have hc1 := BXa.out.cell1
          have hf0 := BXa.out.free 0
          have hf1 := BXa.out.free 1
          go_simp
          have HF' := hide (below_put HF.out (show w4.heap.size ≤ ga by have hx := LTS.out; omega) (.bool sa) (.slice ma la ca'))
          replace T1 := hide (T1.out.keep (BXa.out.keeps (by simp) (by simp) (.bool sa) (.slice ma la ca')))
          replace T2 := hide (T2.out.keep (BXa.out.keeps (by simp) (by simp) (.bool sa) (.slice ma la ca')))
          replace BXb := hide (BXb.out.other (C := ga) (by have hx := LTS.out; omega) (.bool sa) (.slice ma la ca'))
          replace BXa := hide (BXa.out.put (.bool sa) (.slice ma la ca'))
          refine hK _ _ (fun _ => HF'.out) ?_
          clear hK K HF hc0 hf0 hc1 hf1
          have HF := hide HF'.out
          clear HF'
          generalize ((wzb.setCell ⟨ga, 0, none⟩ (.bool sa)).setCell ⟨ga, 1, none⟩ (.slice ma la ca')) = ws1 at *
          refine Calm.one (i := 13) (l' := #[true, true, true, true, true, true, true, true, true, true, true, true, true, true]) (by as_aux_lemma => kernel_rfl) rfl rfl rfl fun K hK => ?_
          have hc0 := BXb.out.cell0
          have hc1 := BXb.out.cell1
          have hf0 := BXb.out.free 0
          have hf1 := BXb.out.free 1
          go_simp
          have HF' := hide (below_put HF.out (show w4.heap.size ≤ gb by have hx := LTS.out; omega) (.bool sb) (.slice mb lb cb'))
          replace T1 := hide (T1.out.keep (BXb.out.keeps (by simp) (by simp) (.bool sb) (.slice mb lb cb')))
          replace T2 := hide (T2.out.keep (BXb.out.keeps (by simp) (by simp) (.bool sb) (.slice mb lb cb')))
          replace BXa := hide (BXa.out.other (C := gb) (by have hx := LTS.out; omega) (.bool sb) (.slice mb lb cb'))
          replace BXb := hide (BXb.out.put (.bool sb) (.slice mb lb cb'))
          refine hK _ _ (fun _ => HF'.out) ?_
          clear hK K HF hc0 hf0 hc1 hf1
          have HF := hide HF'.out
          clear HF'
          generalize ((ws1.setCell ⟨gb, 0, none⟩ (.bool sb)).setCell ⟨gb, 1, none⟩ (.slice mb lb cb')) = ws2 at *
          refine Calm.done (by as_aux_lemma => kernel_rfl) ?_
          as_aux_lemma =>
            go_wp2
            go_meet
            case rel => exact ⟨ga, gb, sa, ma, la, ca', sb, mb, lb, cb', rfl, rfl, BXa.out, BXb.out, T1.out, T2.out, HF.out⟩
        · go_simp
          have al := below_alloc u2 (.cells #[.bool false, .slice none 0 0] 39)
          have HF' := hide (HF.out.trans ((al).mono HF.out.size))
          have BXb := hide (Box2.new u2 39 (.bool false) (.slice none 0 0))
          replace T1 := hide (T1.out.below (al))
          replace T2 := hide (T2.out.below (al))
          have GEb := hide (HF.out.size)
          refine hK _ _ (fun _ => HF'.out) ?_
          clear hK K HF al
          have HF := hide HF'.out
          clear HF'
          generalize u2.alloc (.cells #[.bool false, .slice none 0 0] 39) = wzb at *
          generalize u2.heap.size = gb at *
          refine Calm.one (i := 10) (l' := #[true, true, true, true, true, true, true, true, true, true, true, true, false, false]) (by as_aux_lemma => kernel_rfl) rfl rfl rfl fun K hK => ?_
          go_simp
          have al := below_alloc wzb (.cells #[.bool false, .slice none 0 0] 36)
          have HF' := hide (HF.out.trans ((al).mono HF.out.size))
          have BXa := hide (Box.new wzb (.bool false) (.slice none 0 0))
          replace T1 := hide (T1.out.below (al))
          replace T2 := hide (T2.out.below (al))
          have LTba := hide (BXb.out.lt)
          replace BXb := hide (BXb.out.step al)
          have GEa := hide (HF.out.size)
          refine hK _ _ (fun _ => HF'.out) ?_
          clear hK K HF al
          have HF := hide HF'.out
          clear HF'
          generalize wzb.alloc (.cells #[.bool false, .slice none 0 0] 36) = wza at *
          generalize wzb.heap.size = ga at *
          refine Calm.one (i := 12) (l' := #[true, true, true, true, true, true, true, true, true, true, true, true, true, false]) (by as_aux_lemma => kernel_rfl) rfl rfl rfl fun K hK => ?_
          first | (have LTS := hide (And.intro GEa.out (And.intro GEb.out (Nat.ne_of_lt LTab.out)))) | (have LTS := hide (And.intro GEa.out (And.intro GEb.out (Nat.ne_of_gt LTba.out))))
          have hc0 := BXa.out.cell0
          have hc1 := BXa.out.cell1
          have hf0 := BXa.out.free 0
          have hf1 := BXa.out.free 1
          go_simp
          have HF' := hide (below_put HF.out (show w4.heap.size ≤ ga by have hx := LTS.out; omega) (.bool sa) (.slice ma la ca'))
          replace T1 := hide (T1.out.keep (BXa.out.keeps (by simp) (by simp) (.bool sa) (.slice ma la ca')))
          replace T2 := hide (T2.out.keep (BXa.out.keeps (by simp) (by simp) (.bool sa) (.slice ma la ca')))
          replace BXb := hide (BXb.out.other (C := ga) (by have hx := LTS.out; omega) (.bool sa) (.slice ma la ca'))
          replace BXa := hide (BXa.out.put (.bool sa) (.slice ma la ca'))
          refine hK _ _ (fun _ => HF'.out) ?_
          clear hK K HF hc0 hf0 hc1 hf1
          have HF := hide HF'.out
          clear HF'
          generalize ((wza.setCell ⟨ga, 0, none⟩ (.bool sa)).setCell ⟨ga, 1, none⟩ (.slice ma la ca')) = ws1 at *
          refine Calm.one (i := 13) (l' := #[true, true, true, true, true, true, true, true, true, true, true, true, true, true]) (by as_aux_lemma => kernel_rfl) rfl rfl rfl fun K hK => ?_
          have hc0 := BXb.out.cell0
          have hc1 := BXb.out.cell1
          have hf0 := BXb.out.free 0
          have hf1 := BXb.out.free 1
          go_simp
          have HF' := hide (below_put HF.out (show w4.heap.size ≤ gb by have hx := LTS.out; omega) (.bool sb) (.slice mb lb cb'))
          replace T1 := hide (T1.out.keep (BXb.out.keeps (by simp) (by simp) (.bool sb) (.slice mb lb cb')))
          replace T2 := hide (T2.out.keep (BXb.out.keeps (by simp) (by simp) (.bool sb) (.slice mb lb cb')))
          replace BXa := hide (BXa.out.other (C := gb) (by have hx := LTS.out; omega) (.bool sb) (.slice mb lb cb'))
          replace BXb := hide (BXb.out.put (.bool sb) (.slice mb lb cb'))
          refine hK _ _ (fun _ => HF'.out) ?_
          clear hK K HF hc0 hf0 hc1 hf1
          have HF := hide HF'.out
          clear HF'
          generalize ((ws1.setCell ⟨gb, 0, none⟩ (.bool sb)).setCell ⟨gb, 1, none⟩ (.slice mb lb cb')) = ws2 at *
          refine Calm.done (by as_aux_lemma => kernel_rfl) ?_
          as_aux_lemma =>
            go_wp2
            go_meet
            case rel => exact ⟨ga, gb, sa, ma, la, ca', sb, mb, lb, cb', rfl, rfl, BXa.out, BXb.out, T1.out, T2.out, HF.out⟩
      · go_simp
        have al := below_alloc u1 (.cells #[.bool false, .slice none 0 0] 36)
        have HF' := hide (HF.out.trans ((al).mono HF.out.size))
        have BXa := hide (Box.new u1 (.bool false) (.slice none 0 0))
        replace T1 := hide (T1.out.below (al))
        have GEa := hide (HF.out.size)
        refine hK _ _ (fun _ => HF'.out) ?_
        clear hK K HF al
        have HF := hide HF'.out
        clear HF'
        generalize u1.alloc (.cells #[.bool false, .slice none 0 0] 36) = wza at *
        generalize u1.heap.size = ga at *
        refine Calm.two (i := 9) (j := 11) (l := #[true, true, true, true, true, true, true, true, true, true, true, false, false, false]) (l' := #[true, true, true, true, true, true, true, true, true, false, true, true, false, false]) (by as_aux_lemma => kernel_rfl) rfl rfl rfl rfl rfl rfl (fun K hK => ?_) (fun K hK => ?_)
        · go_simp
          refine (rmake_any cn _ xc _ (NC.out.below HF.out) (by have := LC.out; omega)).mono ?_
          rintro e u2 ⟨v, rfl, i, hb⟩
          rw [HM.out] at i
          obtain ⟨sb, mb, lb, cb', rfl, i⟩ := i.cellsW
          replace T1 := hide (T1.out.below (hb))
          replace BXa := hide (BXa.out.step hb)
          have HF' := hide (HF.out.trans ((hb).mono HF.out.size))
          have T2 := hide (i)
          refine hK _ _ (fun _ => HF'.out) ?_
          clear hK K HF hb i
          have HF := hide HF'.out
          clear HF'
          refine Calm.one (i := 11) (l' := #[true, true, true, true, true, true, true, true, true, true, true, true, false, false]) (by as_aux_lemma => kernel_rfl) rfl rfl rfl fun K hK => ?_
          go_simp
          have al := below_alloc u2 (.cells #[.bool false, .slice none 0 0] 39)
          have HF' := hide (HF.out.trans ((al).mono HF.out.size))
          have BXb := hide (Box2.new u2 39 (.bool false) (.slice none 0 0))
          replace T1 := hide (T1.out.below (al))
          replace T2 := hide (T2.out.below (al))
          have LTab := hide (BXa.out.lt)
          replace BXa := hide (BXa.out.step al)
          have GEb := hide (HF.out.size)
          refine hK _ _ (fun _ => HF'.out) ?_
          clear hK K HF al
          have HF := hide HF'.out
          clear HF'
          generalize u2.alloc (.cells #[.bool false, .slice none 0 0] 39) = wzb at *
          generalize u2.heap.size = gb at *
          refine Calm.one (i := 12) (l' := #[true, true, true, true, true, true, true, true, true, true, true, true, true, false]) (by as_aux_lemma => kernel_rfl) rfl rfl rfl fun K hK => ?_
          first | (have LTS := hide (And.intro GEa.out (And.intro GEb.out (Nat.ne_of_lt LTab.out)))) | (have LTS := hide (And.intro GEa.out (And.intro GEb.out (Nat.ne_of_gt LTba.out))))
          have hc0 := BXa.out.cell0
          have hc1 := BXa.out.cell1
          have hf0 := BXa.out.free 0
          have hf1 := BXa.out.free 1
          go_simp
          have HF' := hide (below_put HF.out (show w4.heap.size ≤ ga by have hx := LTS.out; omega) (.bool sa) (.slice ma la ca'))
          replace T1 := hide (T1.out.keep (BXa.out.keeps (by simp) (by simp) (.bool sa) (.slice ma la ca')))
          replace T2 := hide (T2.out.keep (BXa.out.keeps (by simp) (by simp) (.bool sa) (.slice ma la ca')))
          replace BXb := hide (BXb.out.other (C := ga) (by have hx := LTS.out; omega) (.bool sa) (.slice ma la ca'))
          replace BXa := hide (BXa.out.put (.bool sa) (.slice ma la ca'))
          refine hK _ _ (fun _ => HF'.out) ?_
          clear hK K HF hc0 hf0 hc1 hf1
          have HF := hide HF'.out
          clear HF'
          generalize ((wzb.setCell ⟨ga, 0, none⟩ (.bool sa)).setCell ⟨ga, 1, none⟩ (.slice ma la ca')) = ws1 at *
          refine Calm.one (i := 13) (l' := #[true, true, true, true, true, true, true, true, true, true, true, true, true, true]) (by as_aux_lemma => kernel_rfl) rfl rfl rfl fun K hK => ?_
          have hc0 := BXb.out.cell0
          have hc1 := BXb.out.cell1
          have hf0 := BXb.out.free 0
          have hf1 := BXb.out.free 1
          go_simp
          have HF' := hide (below_put HF.out (show w4.heap.size ≤ gb by have hx := LTS.out; omega) (.bool sb) (.slice mb lb cb'))
          replace T1 := hide (T1.out.keep (BXb.out.keeps (by simp) (by simp) (.bool sb) (.slice mb lb cb')))
          replace T2 := hide (T2.out.keep (BXb.out.keeps (by simp) (by simp) (.bool sb) (.slice mb lb cb')))
          replace BXa := hide (BXa.out.other (C := gb) (by have hx := LTS.out; omega) (.bool sb) (.slice mb lb cb'))
          replace BXb := hide (BXb.out.put (.bool sb) (.slice mb lb cb'))
          refine hK _ _ (fun _ => HF'.out) ?_
          clear hK K HF hc0 hf0 hc1 hf1
          have HF := hide HF'.out
          clear HF'
          generalize ((ws1.setCell ⟨gb, 0, none⟩ (.bool sb)).setCell ⟨gb, 1, none⟩ (.slice mb lb cb')) = ws2 at *
          refine Calm.done (by as_aux_lemma => kernel_rfl) ?_
          as_aux_lemma =>
            go_wp2
            go_meet
            case rel => exact ⟨ga, gb, sa, ma, la, ca', sb, mb, lb, cb', rfl, rfl, BXa.out, BXb.out, T1.out, T2.out, HF.out⟩
        · go_simp
          have al := below_alloc wza (.cells #[.bool false, .slice none 0 0] 39)
          have HF' := hide (HF.out.trans ((al).mono HF.out.size))
          have BXb := hide (Box2.new wza 39 (.bool false) (.slice none 0 0))
          replace T1 := hide (T1.out.below (al))
          have LTab := hide (BXa.out.lt)
          replace BXa := hide (BXa.out.step al)
          have GEb := hide (HF.out.size)
          refine hK _ _ (fun _ => HF'.out) ?_
          clear hK K HF al
          have HF := hide HF'.out
          clear HF'
          generalize wza.alloc (.cells #[.bool false, .slice none 0 0] 39) = wzb at *
          generalize wza.heap.size = gb at *
          refine Calm.one (i := 9) (l' := #[true, true, true, true, true, true, true, true, true, true, true, true, false, false]) (by as_aux_lemma => kernel_rfl) rfl rfl rfl fun K hK => ?_
          go_simp
          refine (rmake_any cn _ xc _ (NC.out.below HF.out) (by have := LC.out; omega)).mono ?_
          rintro e u2 ⟨v, rfl, i, hb⟩
          rw [HM.out] at i
          obtain ⟨sb, mb, lb, cb', rfl, i⟩ := i.cellsW
          replace T1 := hide (T1.out.below (hb))
          replace BXa := hide (BXa.out.step hb)
          replace BXb := hide (BXb.out.step hb)
          have HF' := hide (HF.out.trans ((hb).mono HF.out.size))
          have T2 := hide (i)
          refine hK _ _ (fun _ => HF'.out) ?_
          clear hK K HF hb i
          have HF := hide HF'.out
          clear HF'
          refine Calm.one (i := 12) (l' := #[true, true, true, true, true, true, true, true, true, true, true, true, true, false]) (by as_aux_lemma => kernel_rfl) rfl rfl rfl fun K hK => ?_
          first | (have LTS := hide (And.intro GEa.out (And.intro GEb.out (Nat.ne_of_lt LTab.out)))) | (have LTS := hide (And.intro GEa.out (And.intro GEb.out (Nat.ne_of_gt LTba.out))))
          have hc0 := BXa.out.cell0
          have hc1 := BXa.out.cell1
          have hf0 := BXa.out.free 0
          have hf1 := BXa.out.free 1
          go_simp
          have HF' := hide (below_put HF.out (show w4.heap.size ≤ ga by have hx := LTS.out; omega) (.bool sa) (.slice ma la ca'))
          replace T1 := hide (T1.out.keep (BXa.out.keeps (by simp) (by simp) (.bool sa) (.slice ma la ca')))
          replace T2 := hide (T2.out.keep (BXa.out.keeps (by simp) (by simp) (.bool sa) (.slice ma la ca')))
          replace BXb := hide (BXb.out.other (C := ga) (by have hx := LTS.out; omega) (.bool sa) (.slice ma la ca'))
          replace BXa := hide (BXa.out.put (.bool sa) (.slice ma la ca'))
          refine hK _ _ (fun _ => HF'.out) ?_
          clear hK K HF hc0 hf0 hc1 hf1
          have HF := hide HF'.out
          clear HF'
          generalize ((u2.setCell ⟨ga, 0, none⟩ (.bool sa)).setCell ⟨ga, 1, none⟩ (.slice ma la ca')) = ws1 at *
          refine Calm.one (i := 13) (l' := #[true, true, true, true, true, true, true, true, true, true, true, true, true, true]) (by as_aux_lemma => kernel_rfl) rfl rfl rfl fun K hK => ?_
          have hc0 := BXb.out.cell0
          have hc1 := BXb.out.cell1
          have hf0 := BXb.out.free 0
          have hf1 := BXb.out.free 1
          go_simp
          have HF' := hide (below_put HF.out (show w4.heap.size ≤ gb by have hx := LTS.out; omega) (.bool sb) (.slice mb lb cb'))
          replace T1 := hide (T1.out.keep (BXb.out.keeps (by simp) (by simp) (.bool sb) (.slice mb lb cb')))
          replace T2 := hide (T2.out.keep (BXb.out.keeps (by simp) (by simp) (.bool sb) (.slice mb lb cb')))
          replace BXa := hide (BXa.out.other (C := gb) (by have hx := LTS.out; omega) (.bool sb) (.slice mb lb cb'))
          replace BXb := hide (BXb.out.put (.bool sb) (.slice mb lb cb'))
          refine hK _ _ (fun _ => HF'.out) ?_
          clear hK K HF hc0 hf0 hc1 hf1
          have HF := hide HF'.out
          clear HF'
          generalize ((ws1.setCell ⟨gb, 0, none⟩ (.bool sb)).setCell ⟨gb, 1, none⟩ (.slice mb lb cb')) = ws2 at *
          refine Calm.done (by as_aux_lemma => kernel_rfl) ?_
          as_aux_lemma =>
            go_wp2
            go_meet
            case rel => exact ⟨ga, gb, sa, ma, la, ca', sb, mb, lb, cb', rfl, rfl, BXa.out, BXb.out, T1.out, T2.out, HF.out⟩
      · go_simp
        have al := below_alloc u1 (.cells #[.bool false, .slice none 0 0] 39)
        have HF' := hide (HF.out.trans ((al).mono HF.out.size))
        have BXb := hide (Box2.new u1 39 (.bool false) (.slice none 0 0))
        replace T1 := hide (T1.out.below (al))
        have GEb := hide (HF.out.size)
        refine hK _ _ (fun _ => HF'.out) ?_
        clear hK K HF al
        have HF := hide HF'.out
        clear HF'
        generalize u1.alloc (.cells #[.bool false, .slice none 0 0] 39) = wzb at *
        generalize u1.heap.size = gb at *
        refine Calm.two (i := 9) (j := 10) (l := #[true, true, true, true, true, true, true, true, true, true, false, true, false, false]) (l' := #[true, true, true, true, true, true, true, true, true, false, true, true, false, false]) (by as_aux_lemma => kernel_rfl) rfl rfl rfl rfl rfl rfl (fun K hK => ?_) (fun K hK => ?_)
        · go_simp
          refine (rmake_any cn _ xc _ (NC.out.below HF.out) (by have := LC.out; omega)).mono ?_
          rintro e u2 ⟨v, rfl, i, hb⟩
          rw [HM.out] at i
          obtain ⟨sb, mb, lb, cb', rfl, i⟩ := i.cellsW
          replace T1 := hide (T1.out.below (hb))
          replace BXb := hide (BXb.out.step hb)
          have HF' := hide (HF.out.trans ((hb).mono HF.out.size))
          have T2 := hide (i)
          refine hK _ _ (fun _ => HF'.out) ?_
          clear hK K HF hb i
          have HF := hide HF'.out
          clear HF'
          refine Calm.one (i := 10) (l' := #[true, true, true, true, true, true, true, true, true, true, true, true, false, false]) (by as_aux_lemma => kernel_rfl) rfl rfl rfl fun K hK => ?_
          go_simp
          have al := below_alloc u2 (.cells #[.bool false, .slice none 0 0] 36)
          have HF' := hide (HF.out.trans ((al).mono HF.out.size))
          have BXa := hide (Box.new u2 (.bool false) (.slice none 0 0))
          replace T1 := hide (T1.out.below (al))
          replace T2 := hide (T2.out.below (al))
          have LTba := hide (BXb.out.lt)
          replace BXb := hide (BXb.out.step al)
          have GEa := hide (HF.out.size)
          refine hK _ _ (fun _ => HF'.out) ?_
          clear hK K HF al
          have HF := hide HF'.out
          clear HF'
          generalize u2.alloc (.cells #[.bool false, .slice none 0 0] 36) = wza at *
          generalize u2.heap.size = ga at *
          refine Calm.one (i := 12) (l' := #[true, true, true, true, true, true, true, true, true, true, true, true, true, false]) (by as_aux_lemma => kernel_rfl) rfl rfl rfl fun K hK => ?_
          first | (have LTS := hide (And.intro GEa.out (And.intro GEb.out (Nat.ne_of_lt LTab.out)))) | (have LTS := hide (And.intro GEa.out (And.intro GEb.out (Nat.ne_of_gt LTba.out))))
          have hc0 := BXa.out.cell0
          have hc1 := BXa.out.cell1
          have hf0 := BXa.out.free 0
          have hf1 := BXa.out.free 1
          go_simp
          have HF' := hide (below_put HF.out (show w4.heap.size ≤ ga by have hx := LTS.out; omega) (.bool sa) (.slice ma la ca'))
          replace T1 := hide (T1.out.keep (BXa.out.keeps (by simp) (by simp) (.bool sa) (.slice ma la ca')))
          replace T2 := hide (T2.out.keep (BXa.out.keeps (by simp) (by simp) (.bool sa) (.slice ma la ca')))
          replace BXb := hide (BXb.out.other (C := ga) (by have hx := LTS.out; omega) (.bool sa) (.slice ma la ca'))
          replace BXa := hide (BXa.out.put (.bool sa) (.slice ma la ca'))
          refine hK _ _ (fun _ => HF'.out) ?_
          clear hK K HF hc0 hf0 hc1 hf1
          have HF := hide HF'.out
          clear HF'
          generalize ((wza.setCell ⟨ga, 0, none⟩ (.bool sa)).setCell ⟨ga, 1, none⟩ (.slice ma la ca')) = ws1 at *
          refine Calm.one (i := 13) (l' := #[true, true, true, true, true, true, true, true, true, true, true, true, true, true]) (by as_aux_lemma => kernel_rfl) rfl rfl rfl fun K hK => ?_
          have hc0 := BXb.out.cell0
          have hc1 := BXb.out.cell1
          have hf0 := BXb.out.free 0
          have hf1 := BXb.out.free 1
          go_simp
          have HF' := hide (below_put HF.out (show w4.heap.size ≤ gb by have hx := LTS.out; omega) (.bool sb) (.slice mb lb cb'))
          replace T1 := hide (T1.out.keep (BXb.out.keeps (by simp) (by simp) (.bool sb) (.slice mb lb cb')))
          replace T2 := hide (T2.out.keep (BXb.out.keeps (by simp) (by simp) (.bool sb) (.slice mb lb cb')))
          replace BXa := hide (BXa.out.other (C := gb) (by have hx := LTS.out; omega) (.bool sb) (.slice mb lb cb'))
          replace BXb := hide (BXb.out.put (.bool sb) (.slice mb lb cb'))
          refine hK _ _ (fun _ => HF'.out) ?_
          clear hK K HF hc0 hf0 hc1 hf1
          have HF := hide HF'.out
          clear HF'
          generalize ((ws1.setCell ⟨gb, 0, none⟩ (.bool sb)).setCell ⟨gb, 1, none⟩ (.slice mb lb cb')) = ws2 at *
          refine Calm.done (by as_aux_lemma => kernel_rfl) ?_
          as_aux_lemma =>
            go_wp2
            go_meet
            case rel => exact ⟨ga, gb, sa, ma, la, ca', sb, mb, lb, cb', rfl, rfl, BXa.out, BXb.out, T1.out, T2.out, HF.out⟩
        · go_simp
          have al := below_alloc wzb (.cells #[.bool false, .slice none 0 0] 36)
          have HF' := hide (HF.out.trans ((al).mono HF.out.size))
          have BXa := hide (Box.new wzb (.bool false) (.slice none 0 0))
          replace T1 := hide (T1.out.below (al))
          have LTba := hide (BXb.out.lt)
          replace BXb := hide (BXb.out.step al)
          have GEa := hide (HF.out.size)
          refine hK _ _ (fun _ => HF'.out) ?_
          clear hK K HF al
          have HF := hide HF'.out
          clear HF'
          generalize wzb.alloc (.cells #[.bool false, .slice none 0 0] 36) = wza at *
          generalize wzb.heap.size = ga at *
          refine Calm.one (i := 9) (l' := #[true, true, true, true, true, true, true, true, true, true, true, true, false, false]) (by as_aux_lemma => kernel_rfl) rfl rfl rfl fun K hK => ?_
          go_simp
          refine (rmake_any cn _ xc _ (NC.out.below HF.out) (by have := LC.out; omega)).mono ?_
          rintro e u2 ⟨v, rfl, i, hb⟩
          rw [HM.out] at i
          obtain ⟨sb, mb, lb, cb', rfl, i⟩ := i.cellsW
          replace T1 := hide (T1.out.below (hb))
          replace BXb := hide (BXb.out.step hb)
          replace BXa := hide (BXa.out.step hb)
          have HF' := hide (HF.out.trans ((hb).mono HF.out.size))
          have T2 := hide (i)
          refine hK _ _ (fun _ => HF'.out) ?_
          clear hK K HF hb i
          have HF := hide HF'.out
          clear HF'
          refine Calm.one (i := 12) (l' := #[true, true, true, true, true, true, true, true, true, true, true, true, true, false]) (by as_aux_lemma => kernel_rfl) rfl rfl rfl fun K hK => ?_
          first | (have LTS := hide (And.intro GEa.out (And.intro GEb.out (Nat.ne_of_lt LTab.out)))) | (have LTS := hide (And.intro GEa.out (And.intro GEb.out (Nat.ne_of_gt LTba.out))))
          have hc0 := BXa.out.cell0
          have hc1 := BXa.out.cell1
          have hf0 := BXa.out.free 0
          have hf1 := BXa.out.free 1
          go_simp
          have HF' := hide (below_put HF.out (show w4.heap.size ≤ ga by have hx := LTS.out; omega) (.bool sa) (.slice ma la ca'))
          replace T1 := hide (T1.out.keep (BXa.out.keeps (by simp) (by simp) (.bool sa) (.slice ma la ca')))
          replace T2 := hide (T2.out.keep (BXa.out.keeps (by simp) (by simp) (.bool sa) (.slice ma la ca')))
          replace BXb := hide (BXb.out.other (C := ga) (by have hx := LTS.out; omega) (.bool sa) (.slice ma la ca'))
          replace BXa := hide (BXa.out.put (.bool sa) (.slice ma la ca'))
          refine hK _ _ (fun _ => HF'.out) ?_
          clear hK K HF hc0 hf0 hc1 hf1
          have HF := hide HF'.out
          clear HF'
          generalize ((u2.setCell ⟨ga, 0, none⟩ (.bool sa)).setCell ⟨ga, 1, none⟩ (.slice ma la ca')) = ws1 at *
          refine Calm.one (i := 13) (l' := #[true, true, true, true, true, true, true, true, true, true, true, true, true, true]) (by as_aux_lemma => kernel_rfl) rfl rfl rfl fun K hK => ?_
          have hc0 := BXb.out.cell0
          have hc1 := BXb.out.cell1
          have hf0 := BXb.out.free 0
          have hf1 := BXb.out.free 1
          go_simp
          have HF' := hide (below_put HF.out (show w4.heap.size ≤ gb by have hx := LTS.out; omega) (.bool sb) (.slice mb lb cb'))
          replace T1 := hide (T1.out.keep (BXb.out.keeps (by simp) (by simp) (.bool sb) (.slice mb lb cb')))
          replace T2 := hide (T2.out.keep (BXb.out.keeps (by simp) (by simp) (.bool sb) (.slice mb lb cb')))
          replace BXa := hide (BXa.out.other (C := gb) (by have hx := LTS.out; omega) (.bool sb) (.slice mb lb cb'))
          replace BXb := hide (BXb.out.put (.bool sb) (.slice mb lb cb'))
          refine hK _ _ (fun _ => HF'.out) ?_
          clear hK K HF hc0 hf0 hc1 hf1
          have HF := hide HF'.out
          clear HF'
          generalize ((ws1.setCell ⟨gb, 0, none⟩ (.bool sb)).setCell ⟨gb, 1, none⟩ (.slice mb lb cb')) = ws2 at *
          refine Calm.done (by as_aux_lemma => kernel_rfl) ?_
          as_aux_lemma =>
            go_wp2
            go_meet
            case rel => exact ⟨ga, gb, sa, ma, la, ca', sb, mb, lb, cb', rfl, rfl, BXa.out, BXb.out, T1.out, T2.out, HF.out⟩
    · go_simp
      have al := below_alloc w4d (.cells #[.bool false, .slice none 0 0] 36)
      have HF' := hide (HF.out.trans ((al).mono HF.out.size))
      have BXa := hide (Box.new w4d (.bool false) (.slice none 0 0))
      have GEa := hide (HF.out.size)
      refine hK _ _ (fun _ => HF'.out) ?_
      clear hK K HF al
      have HF := hide HF'.out
      clear HF'
      generalize w4d.alloc (.cells #[.bool false, .slice none 0 0] 36) = wza at *
      generalize w4d.heap.size = ga at *
      refine Calm.two (i := 4) (j := 11) (l := #[true, true, true, true, true, true, true, true, true, false, true, false, false, false]) (l' := #[true, true, true, true, false, true, true, true, true, false, true, true, false, false]) (by as_aux_lemma => kernel_rfl) rfl rfl rfl rfl rfl rfl (fun K hK => ?_) (fun K hK => ?_)
      · go_simp
        refine (make_any cn _ xc _ (NC.out.below HF.out) (by have := LC.out; omega)).mono ?_
        rintro e u1 ⟨v, rfl, i, hb⟩
        rw [HM.out] at i
        obtain ⟨sa, ma, la, ca', rfl, i⟩ := i.cells
        replace BXa := hide (BXa.out.step hb)
        have HF' := hide (HF.out.trans ((hb).mono HF.out.size))
        have T1 := hide (i)
        refine hK _ _ (fun _ => HF'.out) ?_
        clear hK K HF hb i
        have HF := hide HF'.out
        clear HF'
        refine Calm.two (i := 9) (j := 11) (l := #[true, true, true, true, true, true, true, true, true, true, true, false, false, false]) (l' := #[true, true, true, true, true, true, true, true, true, false, true, true, false, false]) (by as_aux_lemma => kernel_rfl) rfl rfl rfl rfl rfl rfl (fun K hK => ?_) (fun K hK => ?_)
        · go_simp
          refine (rmake_any cn _ xc _ (NC.out.below HF.out) (by have := LC.out; omega)).mono ?_
          rintro e u2 ⟨v, rfl, i, hb⟩
          rw [HM.out] at i
          obtain ⟨sb, mb, lb, cb', rfl, i⟩ := i.cellsW
          replace T1 := hide (T1.out.below (hb))
          replace BXa := hide (BXa.out.step hb)
          have HF' := hide (HF.out.trans ((hb).mono HF.out.size))
          have T2 := hide (i)
          refine hK _ _ (fun _ => HF'.out) ?_
          clear hK K HF hb i
          have HF := hide HF'.out
          clear HF'
          refine Calm.one (i := 11) (l' := #[true, true, true, true, true, true, true, true, true, true, true, true, false, false]) (by as_aux_lemma => kernel_rfl) rfl rfl rfl fun K hK => ?_
          go_simp
          have al := below_alloc u2 (.cells #[.bool false, .slice none 0 0] 39)
          have HF' := hide (HF.out.trans ((al).mono HF.out.size))
          have BXb := hide (Box2.new u2 39 (.bool false) (.slice none 0 0))
          replace T1 := hide (T1.out.below (al))
          replace T2 := hide (T2.out.below (al))
          have LTab := hide (BXa.out.lt)
          replace BXa := hide (BXa.out.step al)
          have GEb := hide (HF.out.size)
          refine hK _ _ (fun _ => HF'.out) ?_
          clear hK K HF al
          have HF := hide HF'.out
          clear HF'
          generalize u2.alloc (.cells #[.bool false, .slice none 0 0] 39) = wzb at *
          generalize u2.heap.size = gb at *
          refine Calm.one (i := 12) (l' := #[true, true, true, true, true, true, true, true, true, true, true, true, true, false]) (by as_aux_lemma => kernel_rfl) rfl rfl rfl fun K hK => ?_
          first | (have LTS := hide (And.intro GEa.out (And.intro GEb.out (Nat.ne_of_lt LTab.out)))) | (have LTS := hide (And.intro GEa.out (And.intro GEb.out (Nat.ne_of_gt LTba.out))))
          have hc0 := BXa.out.cell0
          have hc1 := BXa.out.cell1
          have hf0 := BXa.out.free 0
          have hf1 := BXa.out.free 1
          go_simp
          have HF' := hide (below_put HF.out (show w4.heap.size ≤ ga by have hx := LTS.out; omega) (.bool sa) (.slice ma la ca'))
          replace T1 := hide (T1.out.keep (BXa.out.keeps (by simp) (by simp) (.bool sa) (.slice ma la ca')))
          replace T2 := hide (T2.out.keep (BXa.out.keeps (by simp) (by simp) (.bool sa) (.slice ma la ca')))
          replace BXb := hide (BXb.out.other (C := ga) (by have hx := LTS.out; omega) (.bool sa) (.slice ma la ca'))
          replace BXa := hide (BXa.out.put (.bool sa) (.slice ma la ca'))
          refine hK _ _ (fun _ => HF'.out) ?_
          clear hK K HF hc0 hf0 hc1 hf1
          have HF := hide HF'.out
          clear HF'
          generalize ((wzb.setCell ⟨ga, 0, none⟩ (.bool sa)).setCell ⟨ga, 1, none⟩ (.slice ma la ca')) = ws1 at *
          refine Calm.one (i := 13) (l' := #[true, true, true, true, true, true, true, true, true, true, true, true, true, true]) (by as_aux_lemma => kernel_rfl) rfl rfl rfl fun K hK => ?_
          have hc0 := BXb.out.cell0
          have hc1 := BXb.out.cell1
          have hf0 := BXb.out.free 0
          have hf1 := BXb.out.free 1
          go_simp
          have HF' := hide (below_put HF.out (show w4.heap.size ≤ gb by have hx := LTS.out; omega) (.bool sb) (.slice mb lb cb'))
          replace T1 := hide (T1.out.keep (BXb.out.keeps (by simp) (by simp) (.bool sb) (.slice mb lb cb')))
          replace T2 := hide (T2.out.keep (BXb.out.keeps (by simp) (by simp) (.bool sb) (.slice mb lb cb')))
          replace BXa := hide (BXa.out.other (C := gb) (by have hx := LTS.out; omega) (.bool sb) (.slice mb lb cb'))
          replace BXb := hide (BXb.out.put (.bool sb) (.slice mb lb cb'))
          refine hK _ _ (fun _ => HF'.out) ?_
          clear hK K HF hc0 hf0 hc1 hf1
          have HF := hide HF'.out
          clear HF'
          generalize ((ws1.setCell ⟨gb, 0, none⟩ (.bool sb)).setCell ⟨gb, 1, none⟩ (.slice mb lb cb')) = ws2 at *
          refine Calm.done (by as_aux_lemma => kernel_rfl) ?_
          as_aux_lemma =>
            go_wp2
            go_meet
            case rel => exact ⟨ga, gb, sa, ma, la, ca', sb, mb, lb, cb', rfl, rfl, BXa.out, BXb.out, T1.out, T2.out, HF.out⟩
        · go_simp
          have al := below_alloc u1 (.cells #[.bool false, .slice none 0 0] 39)
          have HF' := hide (HF.out.trans ((al).mono HF.out.size))
          have BXb := hide (Box2.new u1 39 (.bool false) (.slice none 0 0))
          replace T1 := hide (T1.out.below (al))
          have LTab := hide (BXa.out.lt)
          replace BXa := hide (BXa.out.step al)
          have GEb := hide (HF.out.size)
          refine hK _ _ (fun _ => HF'.out) ?_
          clear hK K HF al
          have HF := hide HF'.out
          clear HF'
          generalize u1.alloc (.cells #[.bool false, .slice none 0 0] 39) = wzb at *
          generalize u1.heap.size = gb at *
          refine Calm.one (i := 9) (l' := #[true, true, true, true, true, true, true, true, true, true, true, true, false, false]) (by as_aux_lemma => kernel_rfl) rfl rfl rfl fun K hK => ?_
          go_simp
          refine (rmake_any cn _ xc _ (NC.out.below HF.out) (by have := LC.out; omega)).mono ?_
          rintro e u2 ⟨v, rfl, i, hb⟩
          rw [HM.out] at i
          obtain ⟨sb, mb, lb, cb', rfl, i⟩ := i.cellsW
          replace T1 := hide (T1.out.below (hb))
          replace BXa := hide (BXa.out.step hb)
          replace BXb := hide (BXb.out.step hb)
          have HF' := hide (HF.out.trans ((hb).mono HF.out.size))
          have T2 := hide (i)
          refine hK _ _ (fun _ => HF'.out) ?_
          clear hK K HF hb i
          have HF := hide HF'.out
          clear HF'
          refine Calm.one (i := 12) (l' := #[true, true, true, true, true, true, true, true, true, true, true, true, true, false]) (by as_aux_lemma => kernel_rfl) rfl rfl rfl fun K hK => ?_
          first | (have LTS := hide (And.intro GEa.out (And.intro GEb.out (Nat.ne_of_lt LTab.out)))) | (have LTS := hide (And.intro GEa.out (And.intro GEb.out (Nat.ne_of_gt LTba.out))))
          have hc0 := BXa.out.cell0
          have hc1 := BXa.out.cell1
          have hf0 := BXa.out.free 0
          have hf1 := BXa.out.free 1
          go_simp
          have HF' := hide (below_put HF.out (show w4.heap.size ≤ ga by have hx := LTS.out; omega) (.bool sa) (.slice ma la ca'))
          replace T1 := hide (T1.out.keep (BXa.out.keeps (by simp) (by simp) (.bool sa) (.slice ma la ca')))
          replace T2 := hide (T2.out.keep (BXa.out.keeps (by simp) (by simp) (.bool sa) (.slice ma la ca')))
          replace BXb := hide (BXb.out.other (C := ga) (by have hx := LTS.out; omega) (.bool sa) (.slice ma la ca'))
          replace BXa := hide (BXa.out.put (.bool sa) (.slice ma la ca'))
          refine hK _ _ (fun _ => HF'.out) ?_
          clear hK K HF hc0 hf0 hc1 hf1
          have HF := hide HF'.out
          clear HF'
          generalize ((u2.setCell ⟨ga, 0, none⟩ (.bool sa)).setCell ⟨ga, 1, none⟩ (.slice ma la ca')) = ws1 at *
          refine Calm.one (i := 13) (l' := #[true, true, true, true, true, true, true, true, true, true, true, true, true, true]) (by as_aux_lemma => kernel_rfl) rfl rfl rfl fun K hK => ?_
          have hc0 := BXb.out.cell0
          have hc1 := BXb.out.cell1
          have hf0 := BXb.out.free 0
          have hf1 := BXb.out.free 1
          go_simp
          have HF' := hide (below_put HF.out (show w4.heap.size ≤ gb by have hx := LTS.out; omega) (.bool sb) (.slice mb lb cb'))
          replace T1 := hide (T1.out.keep (BXb.out.keeps (by simp) (by simp) (.bool sb) (.slice mb lb cb')))
          replace T2 := hide (T2.out.keep (BXb.out.keeps (by simp) (by simp) (.bool sb) (.slice mb lb cb')))
          replace BXa := hide (BXa.out.other (C := gb) (by have hx := LTS.out; omega) (.bool sb) (.slice mb lb cb'))
          replace BXb := hide (BXb.out.put (.bool sb) (.slice mb lb cb'))
          refine hK _ _ (fun _ => HF'.out) ?_
          clear hK K HF hc0 hf0 hc1 hf1
          have HF := hide HF'.out
          clear HF'
          generalize ((ws1.setCell ⟨gb, 0, none⟩ (.bool sb)).setCell ⟨gb, 1, none⟩ (.slice mb lb cb')) = ws2 at *
          refine Calm.done (by as_aux_lemma => kernel_rfl) ?_
          as_aux_lemma =>
            go_wp2
            go_meet
            case rel => exact ⟨ga, gb, sa, ma, la, ca', sb, mb, lb, cb', rfl, rfl, BXa.out, BXb.out, T1.out, T2.out, HF.out⟩
      · go_simp
        have al := below_alloc wza (.cells #[.bool false, .slice none 0 0] 39)
        have HF' := hide (HF.out.trans ((al).mono HF.out.size))
        have BXb := hide (Box2.new wza 39 (.bool false) (.slice none 0 0))
        have LTab := hide (BXa.out.lt)
        replace BXa := hide (BXa.out.step al)
        have GEb := hide (HF.out.size)
        refine hK _ _ (fun _ => HF'.out) ?_
        clear hK K HF al
        have HF := hide HF'.out
        clear HF'
        generalize wza.alloc (.cells #[.bool false, .slice none 0 0] 39) = wzb at *
        generalize wza.heap.size = gb at *
        refine Calm.one (i := 4) (l' := #[true, true, true, true, true, true, true, true, true, false, true, true, false, false]) (by as_aux_lemma => kernel_rfl) rfl rfl rfl fun K hK => ?_
        go_simp
        refine (make_any cn _ xc _ (NC.out.below HF.out) (by have := LC.out; omega)).mono ?_
        rintro e u1 ⟨v, rfl, i, hb⟩
        rw [HM.out] at i
        obtain ⟨sa, ma, la, ca', rfl, i⟩ := i.cells
        replace BXa := hide (BXa.out.step hb)
        replace BXb := hide (BXb.out.step hb)
        have HF' := hide (HF.out.trans ((hb).mono HF.out.size))
        have T1 := hide (i)
        refine hK _ _ (fun _ => HF'.out) ?_
        clear hK K HF hb i
        have HF := hide HF'.out
        clear HF'
        refine Calm.one (i := 9) (l' := #[true, true, true, true, true, true, true, true, true, true, true, true, false, false]) (by as_aux_lemma => kernel_rfl) rfl rfl rfl fun K hK => ?_
        go_simp
        refine (rmake_any cn _ xc _ (NC.out.below HF.out) (by have := LC.out; omega)).mono ?_
        rintro e u2 ⟨v, rfl, i, hb⟩
        rw [HM.out] at i
        obtain ⟨sb, mb, lb, cb', rfl, i⟩ := i.cellsW
        replace T1 := hide (T1.out.below (hb))
        replace BXa := hide (BXa.out.step hb)
        replace BXb := hide (BXb.out.step hb)
        have HF' := hide (HF.out.trans ((hb).mono HF.out.size))
        have T2 := hide (i)
        refine hK _ _ (fun _ => HF'.out) ?_
        clear hK K HF hb i
        have HF := hide HF'.out
        clear HF'
        refine Calm.one (i := 12) (l' := #[true, true, true, true, true, true, true, true, true, true, true, true, true, false]) (by as_aux_lemma => kernel_rfl) rfl rfl rfl fun K hK => ?_
        first | (have LTS := hide (And.intro GEa.out (And.intro GEb.out (Nat.ne_of_lt LTab.out)))) | (have LTS := hide (And.intro GEa.out (And.intro GEb.out (Nat.ne_of_gt LTba.out))))
        have hc0 := BXa.out.cell0
        have hc1 := BXa.out.cell1
        have hf0 := BXa.out.free 0
        have hf1 := BXa.out.free 1
        go_simp
        have HF' := hide (below_put HF.out (show w4.heap.size ≤ ga by have hx := LTS.out; omega) (.bool sa) (.slice ma la ca'))
        replace T1 := hide (T1.out.keep (BXa.out.keeps (by simp) (by simp) (.bool sa) (.slice ma la ca')))
        replace T2 := hide (T2.out.keep (BXa.out.keeps (by simp) (by simp) (.bool sa) (.slice ma la ca')))
        replace BXb := hide (BXb.out.other (C := ga) (by have hx := LTS.out; omega) (.bool sa) (.slice ma la ca'))
        replace BXa := hide (BXa.out.put (.bool sa) (.slice ma la ca'))
        refine hK _ _ (fun _ => HF'.out) ?_
        clear hK K HF hc0 hf0 hc1 hf1
        have HF := hide HF'.out
        clear HF'
        generalize ((u2.setCell ⟨ga, 0, none⟩ (.bool sa)).setCell ⟨ga, 1, none⟩ (.slice ma la ca')) = ws1 at *
        refine Calm.one (i := 13) (l' := #[true, true, true, true, true, true, true, true, true, true, true, true, true, true]) (by as_aux_lemma => kernel_rfl) rfl rfl rfl fun K hK => ?_
        have hc0 := BXb.out.cell0
        have hc1 := BXb.out.cell1
        have hf0 := BXb.out.free 0
        have hf1 := BXb.out.free 1
        go_simp
        have HF' := hide (below_put HF.out (show w4.heap.size ≤ gb by have hx := LTS.out; omega) (.bool sb) (.slice mb lb cb'))
        replace T1 := hide (T1.out.keep (BXb.out.keeps (by simp) (by simp) (.bool sb) (.slice mb lb cb')))
        replace T2 := hide (T2.out.keep (BXb.out.keeps (by simp) (by simp) (.bool sb) (.slice mb lb cb')))
        replace BXa := hide (BXa.out.other (C := gb) (by have hx := LTS.out; omega) (.bool sb) (.slice mb lb cb'))
        replace BXb := hide (BXb.out.put (.bool sb) (.slice mb lb cb'))
        refine hK _ _ (fun _ => HF'.out) ?_
        clear hK K HF hc0 hf0 hc1 hf1
        have HF := hide HF'.out
        clear HF'
        generalize ((ws1.setCell ⟨gb, 0, none⟩ (.bool sb)).setCell ⟨gb, 1, none⟩ (.slice mb lb cb')) = ws2 at *
        refine Calm.done (by as_aux_lemma => kernel_rfl) ?_
        as_aux_lemma =>
          go_wp2
          go_meet
          case rel => exact ⟨ga, gb, sa, ma, la, ca', sb, mb, lb, cb', rfl, rfl, BXa.out, BXb.out, T1.out, T2.out, HF.out⟩
    · go_simp
      have al := below_alloc w4d (.cells #[.bool false, .slice none 0 0] 39)
      have HF' := hide (HF.out.trans ((al).mono HF.out.size))
      have BXb := hide (Box2.new w4d 39 (.bool false) (.slice none 0 0))
      have GEb := hide (HF.out.size)
      refine hK _ _ (fun _ => HF'.out) ?_
      clear hK K HF al
      have HF := hide HF'.out
      clear HF'
      generalize w4d.alloc (.cells #[.bool false, .slice none 0 0] 39) = wzb at *
      generalize w4d.heap.size = gb at *
      refine Calm.two (i := 4) (j := 10) (l := #[true, true, true, true, true, true, true, true, true, false, false, true, false, false]) (l' := #[true, true, true, true, false, true, true, true, true, false, true, true, false, false]) (by as_aux_lemma => kernel_rfl) rfl rfl rfl rfl rfl rfl (fun K hK => ?_) (fun K hK => ?_)
      · go_simp
        refine (make_any cn _ xc _ (NC.out.below HF.out) (by have := LC.out; omega)).mono ?_
        rintro e u1 ⟨v, rfl, i, hb⟩
        rw [HM.out] at i
        obtain ⟨sa, ma, la, ca', rfl, i⟩ := i.cells
        replace BXb := hide (BXb.out.step hb)
        have HF' := hide (HF.out.trans ((hb).mono HF.out.size))
        have T1 := hide (i)
        refine hK _ _ (fun _ => HF'.out) ?_
        clear hK K HF hb i
        have HF := hide HF'.out
        clear HF'
        refine Calm.two (i := 9) (j := 10) (l := #[true, true, true, true, true, true, true, true, true, true, false, true, false, false]) (l' := #[true, true, true, true, true, true, true, true, true, false, true, true, false, false]) (by as_aux_lemma => kernel_rfl) rfl rfl rfl rfl rfl rfl (fun K hK => ?_) (fun K hK => ?_)
        · go_simp
          refine (rmake_any cn _ xc _ (NC.out.below HF.out) (by have := LC.out; omega)).mono ?_
          rintro e u2 ⟨v, rfl, i, hb⟩
          rw [HM.out] at i
          obtain ⟨sb, mb, lb, cb', rfl, i⟩ := i.cellsW
          replace T1 := hide (T1.out.below (hb))
          replace BXb := hide (BXb.out.step hb)
          have HF' := hide (HF.out.trans ((hb).mono HF.out.size))
          have T2 := hide (i)
          refine hK _ _ (fun _ => HF'.out) ?_
          clear hK K HF hb i
          have HF := hide HF'.out
          clear HF'
          refine Calm.one (i := 10) (l' := #[true, true, true, true, true, true, true, true, true, true, true, true, false, false]) (by as_aux_lemma => kernel_rfl) rfl rfl rfl fun K hK => ?_
          go_simp
          have al := below_alloc u2 (.cells #[.bool false, .slice none 0 0] 36)
          have HF' := hide (HF.out.trans ((al).mono HF.out.size))
          have BXa := hide (Box.new u2 (.bool false) (.slice none 0 0))
          replace T1 := hide (T1.out.below (al))
          replace T2 := hide (T2.out.below (al))
          have LTba := hide (BXb.out.lt)
          replace BXb := hide (BXb.out.step al)
          have GEa := hide (HF.out.size)
          refine hK _ _ (fun _ => HF'.out) ?_
          clear hK K HF al
          have HF := hide HF'.out
          clear HF'
          generalize u2.alloc (.cells #[.bool false, .slice none 0 0] 36) = wza at *
          generalize u2.heap.size = ga at *
          refine Calm.one (i := 12) (l' := #[true, true, true, true, true, true, true, true, true, true, true, true, true, false]) (by as_aux_lemma => kernel_rfl) rfl rfl rfl fun K hK => ?_
          first | (have LTS := hide (And.intro GEa.out (And.intro GEb.out (Nat.ne_of_lt LTab.out)))) | (have LTS := hide (And.intro GEa.out (And.intro GEb.out (Nat.ne_of_gt LTba.out))))
          have hc0 := BXa.out.cell0
          have hc1 := BXa.out.cell1
          have hf0 := BXa.out.free 0
          have hf1 := BXa.out.free 1
          go_simp
          have HF' := hide (below_put HF.out (show w4.heap.size ≤ ga by have hx := LTS.out; omega) (.bool sa) (.slice ma la ca'))
          replace T1 := hide (T1.out.keep (BXa.out.keeps (by simp) (by simp) (.bool sa) (.slice ma la ca')))
          replace T2 := hide (T2.out.keep (BXa.out.keeps (by simp) (by simp) (.bool sa) (.slice ma la ca')))
          replace BXb := hide (BXb.out.other (C := ga) (by have hx := LTS.out; omega) (.bool sa) (.slice ma la ca'))
          replace BXa := hide (BXa.out.put (.bool sa) (.slice ma la ca'))
          refine hK _ _ (fun _ => HF'.out) ?_
          clear hK K HF hc0 hf0 hc1 hf1
          have HF := hide HF'.out
          clear HF'
          generalize ((wza.setCell ⟨ga, 0, none⟩ (.bool sa)).setCell ⟨ga, 1, none⟩ (.slice ma la ca')) = ws1 at *
          refine Calm.one (i := 13) (l' := #[true, true, true, true, true, true, true, true, true, true, true, true, true, true]) (by as_aux_lemma => kernel_rfl) rfl rfl rfl fun K hK => ?_
          have hc0 := BXb.out.cell0
          have hc1 := BXb.out.cell1
          have hf0 := BXb.out.free 0
          have hf1 := BXb.out.free 1
          go_simp
          have HF' := hide (below_put HF.out (show w4.heap.size ≤ gb by have hx := LTS.out; omega) (.bool sb) (.slice mb lb cb'))
          replace T1 := hide (T1.out.keep (BXb.out.keeps (by simp) (by simp) (.bool sb) (.slice mb lb cb')))
          replace T2 := hide (T2.out.keep (BXb.out.keeps (by simp) (by simp) (.bool sb) (.slice mb lb cb')))
          replace BXa := hide (BXa.out.other (C := gb) (by have hx := LTS.out; omega) (.bool sb) (.slice mb lb cb'))
          replace BXb := hide (BXb.out.put (.bool sb) (.slice mb lb cb'))
          refine hK _ _ (fun _ => HF'.out) ?_
          clear hK K HF hc0 hf0 hc1 hf1
          have HF := hide HF'.out
          clear HF'
          generalize ((ws1.setCell ⟨gb, 0, none⟩ (.bool sb)).setCell ⟨gb, 1, none⟩ (.slice mb lb cb')) = ws2 at *
          refine Calm.done (by as_aux_lemma => kernel_rfl) ?_
          as_aux_lemma =>
            go_wp2
            go_meet
            case rel => exact ⟨ga, gb, sa, ma, la, ca', sb, mb, lb, cb', rfl, rfl, BXa.out, BXb.out, T1.out, T2.out, HF.out⟩
        · go_simp
          have al := below_alloc u1 (.cells #[.bool false, .slice none 0 0] 36)
          have HF' := hide (HF.out.trans ((al).mono HF.out.size))
          have BXa := hide (Box.new u1 (.bool false) (.slice none 0 0))
          replace T1 := hide (T1.out.below (al))
          have LTba := hide (BXb.out.lt)
          replace BXb := hide (BXb.out.step al)
          have GEa := hide (HF.out.size)
          refine hK _ _ (fun _ => HF'.out) ?_
          clear hK K HF al
          have HF := hide HF'.out
          clear HF'
          generalize u1.alloc (.cells #[.bool false, .slice none 0 0] 36) = wza at *
          generalize u1.heap.size = ga at *
          refine Calm.one (i := 9) (l' := #[true, true, true, true, true, true, true, true, true, true, true, true, false, false]) (by as_aux_lemma => kernel_rfl) rfl rfl rfl fun K hK => ?_
          go_simp
          refine (rmake_any cn _ xc _ (NC.out.below HF.out) (by have := LC.out; omega)).mono ?_
          rintro e u2 ⟨v, rfl, i, hb⟩
          rw [HM.out] at i
          obtain ⟨sb, mb, lb, cb', rfl, i⟩ := i.cellsW
          replace T1 := hide (T1.out.below (hb))
          replace BXb := hide (BXb.out.step hb)
          replace BXa := hide (BXa.out.step hb)
          have HF' := hide (HF.out.trans ((hb).mono HF.out.size))
          have T2 := hide (i)
          refine hK _ _ (fun _ => HF'.out) ?_
          clear hK K HF hb i
          have HF := hide HF'.out
          clear HF'
          refine Calm.one (i := 12) (l' := #[true, true, true, true, true, true, true, true, true, true, true, true, true, false]) (by as_aux_lemma => kernel_rfl) rfl rfl rfl fun K hK => ?_
          first | (have LTS := hide (And.intro GEa.out (And.intro GEb.out (Nat.ne_of_lt LTab.out)))) | (have LTS := hide (And.intro GEa.out (And.intro GEb.out (Nat.ne_of_gt LTba.out))))
          have hc0 := BXa.out.cell0
          have hc1 := BXa.out.cell1
          have hf0 := BXa.out.free 0
          have hf1 := BXa.out.free 1
          go_simp
          have HF' := hide (below_put HF.out (show w4.heap.size ≤ ga by have hx := LTS.out; omega) (.bool sa) (.slice ma la ca'))
          replace T1 := hide (T1.out.keep (BXa.out.keeps (by simp) (by simp) (.bool sa) (.slice ma la ca')))
          replace T2 := hide (T2.out.keep (BXa.out.keeps (by simp) (by simp) (.bool sa) (.slice ma la ca')))
          replace BXb := hide (BXb.out.other (C := ga) (by have hx := LTS.out; omega) (.bool sa) (.slice ma la ca'))
          replace BXa := hide (BXa.out.put (.bool sa) (.slice ma la ca'))
          refine hK _ _ (fun _ => HF'.out) ?_
          clear hK K HF hc0 hf0 hc1 hf1
          have HF := hide HF'.out
          clear HF'
          generalize ((u2.setCell ⟨ga, 0, none⟩ (.bool sa)).setCell ⟨ga, 1, none⟩ (.slice ma la ca')) = ws1 at *
          refine Calm.one (i := 13) (l' := #[true, true, true, true, true, true, true, true, true, true, true, true, true, true]) (by as_aux_lemma => kernel_rfl) rfl rfl rfl fun K hK => ?_
          have hc0 := BXb.out.cell0
          have hc1 := BXb.out.cell1
          have hf0 := BXb.out.free 0
          have hf1 := BXb.out.free 1
          go_simp
          have HF' := hide (below_put HF.out (show w4.heap.size ≤ gb by have hx := LTS.out; omega) (.bool sb) (.slice mb lb cb'))
          replace T1 := hide (T1.out.keep (BXb.out.keeps (by simp) (by simp) (.bool sb) (.slice mb lb cb')))
          replace T2 := hide (T2.out.keep (BXb.out.keeps (by simp) (by simp) (.bool sb) (.slice mb lb cb')))
          replace BXa := hide (BXa.out.other (C := gb) (by have hx := LTS.out; omega) (.bool sb) (.slice mb lb cb'))
          replace BXb := hide (BXb.out.put (.bool sb) (.slice mb lb cb'))
          refine hK _ _ (fun _ => HF'.out) ?_
          clear hK K HF hc0 hf0 hc1 hf1
          have HF := hide HF'.out
          clear HF'
          generalize ((ws1.setCell ⟨gb, 0, none⟩ (.bool sb)).setCell ⟨gb, 1, none⟩ (.slice mb lb cb')) = ws2 at *
          refine Calm.done (by as_aux_lemma => kernel_rfl) ?_
          as_aux_lemma =>
            go_wp2
            go_meet
            case rel => exact ⟨ga, gb, sa, ma, la, ca', sb, mb, lb, cb', rfl, rfl, BXa.out, BXb.out, T1.out, T2.out, HF.out⟩
      · go_simp
        have al := below_alloc wzb (.cells #[.bool false, .slice none 0 0] 36)
        have HF' := hide (HF.out.trans ((al).mono HF.out.size))
        have BXa := hide (Box.new wzb (.bool false) (.slice none 0 0))
        have LTba := hide (BXb.out.lt)
        replace BXb := hide (BXb.out.step al)
        have GEa := hide (HF.out.size)
        refine hK _ _ (fun _ => HF'.out) ?_
        clear hK K HF al
        have HF := hide HF'.out
        clear HF'
        generalize wzb.alloc (.cells #[.bool false, .slice none 0 0] 36) = wza at *
        generalize wzb.heap.size = ga at *
        refine Calm.one (i := 4) (l' := #[true, true, true, true, true, true, true, true, true, false, true, true, false, false]) (by as_aux_lemma => kernel_rfl) rfl rfl rfl fun K hK => ?_
        go_simp
        refine (make_any cn _ xc _ (NC.out.below HF.out) (by have := LC.out; omega)).mono ?_
        rintro e u1 ⟨v, rfl, i, hb⟩
        rw [HM.out] at i
        obtain ⟨sa, ma, la, ca', rfl, i⟩ := i.cells
        replace BXb := hide (BXb.out.step hb)
        replace BXa := hide (BXa.out.step hb)
        have HF' := hide (HF.out.trans ((hb).mono HF.out.size))
        have T1 := hide (i)
        refine hK _ _ (fun _ => HF'.out) ?_
        clear hK K HF hb i
        have HF := hide HF'.out
        clear HF'
        refine Calm.one (i := 9) (l' := #[true, true, true, true, true, true, true, true, true, true, true, true, false, false]) (by as_aux_lemma => kernel_rfl) rfl rfl rfl fun K hK => ?_
        go_simp
        refine (rmake_any cn _ xc _ (NC.out.below HF.out) (by have := LC.out; omega)).mono ?_
        rintro e u2 ⟨v, rfl, i, hb⟩
        rw [HM.out] at i
        obtain ⟨sb, mb, lb, cb', rfl, i⟩ := i.cellsW
        replace T1 := hide (T1.out.below (hb))
        replace BXb := hide (BXb.out.step hb)
        replace BXa := hide (BXa.out.step hb)
        have HF' := hide (HF.out.trans ((hb).mono HF.out.size))
        have T2 := hide (i)
        refine hK _ _ (fun _ => HF'.out) ?_
        clear hK K HF hb i
        have HF := hide HF'.out
        clear HF'
        refine Calm.one (i := 12) (l' := #[true, true, true, true, true, true, true, true, true, true, true, true, true, false]) (by as_aux_lemma => kernel_rfl) rfl rfl rfl fun K hK => ?_
        first | (have LTS := hide (And.intro GEa.out (And.intro GEb.out (Nat.ne_of_lt LTab.out)))) | (have LTS := hide (And.intro GEa.out (And.intro GEb.out (Nat.ne_of_gt LTba.out))))
        have hc0 := BXa.out.cell0
        have hc1 := BXa.out.cell1
        have hf0 := BXa.out.free 0
        have hf1 := BXa.out.free 1
        go_simp
        have HF' := hide (below_put HF.out (show w4.heap.size ≤ ga by have hx := LTS.out; omega) (.bool sa) (.slice ma la ca'))
        replace T1 := hide (T1.out.keep (BXa.out.keeps (by simp) (by simp) (.bool sa) (.slice ma la ca')))
        replace T2 := hide (T2.out.keep (BXa.out.keeps (by simp) (by simp) (.bool sa) (.slice ma la ca')))
        replace BXb := hide (BXb.out.other (C := ga) (by have hx := LTS.out; omega) (.bool sa) (.slice ma la ca'))
        replace BXa := hide (BXa.out.put (.bool sa) (.slice ma la ca'))
        refine hK _ _ (fun _ => HF'.out) ?_
        clear hK K HF hc0 hf0 hc1 hf1
        have HF := hide HF'.out
        clear HF'
        generalize ((u2.setCell ⟨ga, 0, none⟩ (.bool sa)).setCell ⟨ga, 1, none⟩ (.slice ma la ca')) = ws1 at *
        refine Calm.one (i := 13) (l' := #[true, true, true, true, true, true, true, true, true, true, true, true, true, true]) (by as_aux_lemma => kernel_rfl) rfl rfl rfl fun K hK => ?_
        have hc0 := BXb.out.cell0
        have hc1 := BXb.out.cell1
        have hf0 := BXb.out.free 0
        have hf1 := BXb.out.free 1
        go_simp
        have HF' := hide (below_put HF.out (show w4.heap.size ≤ gb by have hx := LTS.out; omega) (.bool sb) (.slice mb lb cb'))
        replace T1 := hide (T1.out.keep (BXb.out.keeps (by simp) (by simp) (.bool sb) (.slice mb lb cb')))
        replace T2 := hide (T2.out.keep (BXb.out.keeps (by simp) (by simp) (.bool sb) (.slice mb lb cb')))
        replace BXa := hide (BXa.out.other (C := gb) (by have hx := LTS.out; omega) (.bool sb) (.slice mb lb cb'))
        replace BXb := hide (BXb.out.put (.bool sb) (.slice mb lb cb'))
        refine hK _ _ (fun _ => HF'.out) ?_
        clear hK K HF hc0 hf0 hc1 hf1
        have HF := hide HF'.out
        clear HF'
        generalize ((ws1.setCell ⟨gb, 0, none⟩ (.bool sb)).setCell ⟨gb, 1, none⟩ (.slice mb lb cb')) = ws2 at *
        refine Calm.done (by as_aux_lemma => kernel_rfl) ?_
        as_aux_lemma =>
          go_wp2
          go_meet
          case rel => exact ⟨ga, gb, sa, ma, la, ca', sb, mb, lb, cb', rfl, rfl, BXa.out, BXb.out, T1.out, T2.out, HF.out⟩
  case rest =>
  obtain ⟨ga, gb, sa, ma, la, ka, sb, mb, lb, kb, rfl, rfl, ba, bb, ia, ib, hb⟩ := hcut
  replace HB := hide (HB.out.trans ((hb).mono HB.out.size))
  replace C0 := hide (C0.out.step (hb))
  replace XA := hide (XA.out.below (hb))
  replace PA := hide (PA.out.below (hb))
  replace NC := hide (NC.out.below (hb))
  have VA := hide ba
  have VM := hide bb
  have IA := hide ia
  have IM := hide ib
  clear ba bb ia ib hb C0 NC HM LC
  generalize hwc : wc = w5 at *
  clear hwc
  have LW5 := hide HB.out.size
  by_cases hm0 : m = 0
  · skip
    have M0 := hide hm0
    clear hm0
    have VA0 := VA.out.cell0
    have VA1 := VA.out.cell1
    go_wp2_with fail
    refine (roverL_zero _ _ xs _ XA.out (by have h := IA.out; rw [M0.out] at h; exact h)).mono ?_
    rintro e w7 ⟨rfl, hb⟩
    clear VA0 VA1
    replace HB := hide (HB.out.trans ((hb).mono HB.out.size))
    replace XA := hide (XA.out.below (hb))
    replace PA := hide (PA.out.below (hb))
    replace VA := hide (VA.out.step (hb))
    replace VM := hide (VM.out.step (hb))
    replace IA := hide (IA.out.below (hb))
    replace IM := hide (IM.out.below (hb))
    clear hb
    go_wp2_with fail
    refine (r4content_any _ xs 300 _ PA.out SX.out (by decide)).mono ?_
    rintro e w8 ⟨v, rfl, i, hb⟩
    obtain ⟨s1, m1, l1, c1, rfl, i⟩ := i.cellsW
    replace HB := hide (HB.out.trans ((hb).mono HB.out.size))
    replace XA := hide (XA.out.below (hb))
    replace PA := hide (PA.out.below (hb))
    replace VA := hide (VA.out.step (hb))
    replace VM := hide (VM.out.step (hb))
    replace IA := hide (IA.out.below (hb))
    replace IM := hide (IM.out.below (hb))
    have I11 := hide i
    clear i hb
    go_upto_region 9 with fail
    have al := below_alloc w8 (.cells #[.bool s1, .slice m1 l1 c1] 39)
    replace HB := hide (HB.out.trans ((al).mono HB.out.size))
    replace XA := hide (XA.out.below (al))
    replace PA := hide (PA.out.below (al))
    replace VA := hide (VA.out.step (al))
    replace VM := hide (VM.out.step (al))
    replace IA := hide (IA.out.below (al))
    replace IM := hide (IM.out.below (al))
    replace I11 := hide (I11.out.below (al))
    clear al
    have V11 := hide (Box2.new w8 39 (.bool s1) (.slice m1 l1 c1))
    generalize w8.alloc (.cells #[.bool s1, .slice m1 l1 c1] 39) = w9 at *
    generalize w8.heap.size = g11 at *
    go_wp2_with fail
    refine (r4prim_any _ xs 300 _ PA.out (by have := LX.out; omega) SX.out (by decide)).mono ?_
    rintro e w10 ⟨vW, v, rfl, hr, i, hb⟩
    obtain ⟨s2, m2, l2, c2, rfl, i⟩ := i.cellsW
    replace HB := hide (HB.out.trans ((hb).mono HB.out.size))
    replace XA := hide (XA.out.below (hb))
    replace PA := hide (PA.out.below (hb))
    replace VA := hide (VA.out.step (hb))
    replace VM := hide (VM.out.step (hb))
    replace IA := hide (IA.out.below (hb))
    replace IM := hide (IM.out.below (hb))
    replace I11 := hide (I11.out.below (hb))
    replace V11 := hide (V11.out.step (hb))
    have RW := hide hr
    have I13 := hide i
    clear hr i hb
    go_upto_region 10 with fail
    have al := below_alloc w10 (.cells #[.bool s2, .slice m2 l2 c2] 39)
    replace HB := hide (HB.out.trans ((al).mono HB.out.size))
    replace XA := hide (XA.out.below (al))
    replace PA := hide (PA.out.below (al))
    replace VA := hide (VA.out.step (al))
    replace VM := hide (VM.out.step (al))
    replace IA := hide (IA.out.below (al))
    replace IM := hide (IM.out.below (al))
    replace I11 := hide (I11.out.below (al))
    replace V11 := hide (V11.out.step (al))
    replace RW := hide (RW.out.below (al))
    replace I13 := hide (I13.out.below (al))
    clear al
    have V13 := hide (Box2.new w10 39 (.bool s2) (.slice m2 l2 c2))
    generalize w10.alloc (.cells #[.bool s2, .slice m2 l2 c2] 39) = wP at *
    generalize w10.heap.size = g13 at *
    go_wp2_with fail
    refine (prim_any _ xs 300 _ XA.out (by have := LX.out; omega) SX.out (by decide)).mono ?_
    rintro e w11 ⟨bu, v, rfl, hge, hr, i, hb⟩
    obtain ⟨s3, m3, l3, c3, rfl, i⟩ := i.cells
    have HP := hide hb
    have RU := hide hr
    have GU := hide hge
    have I15 := hide i
    clear hr hge i hb
    go_upto_region 11 with fail
    have al := below_alloc w11 (.cells #[.bool s3, .slice m3 l3 c3] 36)
    replace HP := hide (HP.out.trans (al.mono HP.out.size))
    have LU := hide RU.out.lt
    replace RU := hide (RU.out.step al)
    replace I15 := hide (I15.out.below al)
    clear al
    have V15 := hide (Box.new w11 (.bool s3) (.slice m3 l3 c3))
    generalize w11.alloc (.cells #[.bool s3, .slice m3 l3 c3] 36) = w12 at *
    generalize w11.heap.size = g15 at *
    replace RU := hide RU.out.drew
    refine wp_calm (fun w' => Below wP.heap.size wP w' ∧ Box w' g15 (.bool s3) (.slice m3 l3 c3) ∧ IntAt w' (.agg #[.bool s3, .slice m3 l3 c3]) (contS xs)) (fun _ => true) 28 #[false, false, false, false, false, false, false, false, false, false, false, false, false, false, false, false, false, false, false, false, false, false, false, false, false, false, false, false] (by as_aux_lemma => kernel_rfl) rfl rfl ?_
    have HF := hide (And.intro (HP.out.drew) (And.intro (V15.out.drew) (I15.out.drew)))
    generalize w12.drew = w12d at *
    refine Calm.take (i := 0) (v := ?_) (a' := ?_) (l' := #[true, false, false, false, false, false, false, false, false, false, false, false, false, false, false, false, false, false, false, false, false, false, false, false, false, false, false, false]) (d := some 60) rfl (by as_aux_lemma => kernel_rfl) (by as_aux_lemma => kernel_rfl) (by as_aux_lemma => kernel_rfl) (by as_aux_lemma => kernel_rfl) (fun _ _ _ h => h) HF.out rfl ?_ rfl rfl ?_ ?_
    rotate_left
    · intro w' hF; clear hF; go_simp; try rfl
    rotate_left
    · simp only [Act.put]; exact rfl
    refine Calm.take (i := 2) (v := ?_) (a' := ?_) (l' := #[true, false, true, false, false, false, false, false, false, false, false, false, false, false, false, false, false, false, false, false, false, false, false, false, false, false, false, false]) (d := some 62) rfl (by as_aux_lemma => kernel_rfl) (by as_aux_lemma => kernel_rfl) (by as_aux_lemma => kernel_rfl) (by as_aux_lemma => kernel_rfl) (fun _ _ _ h => h) HF.out rfl ?_ rfl rfl ?_ ?_
    rotate_left
    · intro w' hF; have f0 := (V11.out.step hF.1).cell0; have f1 := (V11.out.step hF.1).cell1; have f2 := (V13.out.step hF.1).cell0; have f3 := (V13.out.step hF.1).cell1; have f4 := hF.2.1.cell0; have f5 := hF.2.1.cell1; clear hF; go_simp; try rfl
    rotate_left
    · simp only [Act.put]; exact rfl
    refine Calm.one (i := 1) (l' := #[true, true, true, false, false, false, false, false, false, false, false, false, false, false, false, false, false, false, false, false, false, false, false, false, false, false, false, false]) (by as_aux_lemma => kernel_rfl) rfl rfl rfl fun K hK => ?_
    go_simp
    refine (content_any _ xs 300 _ (XA.out.below HF.out.1) SX.out (by decide)).mono ?_
    rintro e z0 ⟨v, rfl, i, hb⟩
    replace RU := hide (RU.out.step (hb))
    have HF' := hide (And.intro (HF.out.1.trans ((hb).mono HF.out.1.size)) (And.intro (HF.out.2.1.step (hb)) (HF.out.2.2.below (hb))))
    have T1 := hide (i)
    refine hK _ _ (fun _ => HF'.out) ?_
    clear hK K HF hb i
    have HF := hide HF'.out
    clear HF'
    refine Calm.one (i := 3) (l' := #[true, true, true, true, false, false, false, false, false, false, false, false, false, false, false, false, false, false, false, false, false, false, false, false, false, false, false, false]) (by as_aux_lemma => kernel_rfl) rfl rfl rfl fun K hK => ?_
    go_simp
    refine (one_yes _ _ (gcdTo xs xs.length : Int) _ T1.out (I11.out.below HF.out.1) (SzI.len (gcdTo_sz SX.out xs.length) (by decide))).mono ?_
    rintro e z1 ⟨rfl, hb⟩
    replace RU := hide (RU.out.step (hb))
    clear T1
    have HF' := hide (And.intro (HF.out.1.trans ((hb).mono HF.out.1.size)) (And.intro (HF.out.2.1.step (hb)) (HF.out.2.2.below (hb))))
    refine hK _ _ (fun _ => HF'.out) ?_
    clear hK K HF hb
    have HF := hide HF'.out
    clear HF'
    refine Calm.take (i := 4) (v := ?_) (a' := ?_) (l' := #[true, true, true, true, true, false, false, false, false, false, false, false, false, false, false, false, false, false, false, false, false, false, false, false, false, false, false, false]) (d := some 64) rfl (by as_aux_lemma => kernel_rfl) (by as_aux_lemma => kernel_rfl) (by as_aux_lemma => kernel_rfl) (by as_aux_lemma => kernel_rfl) (fun _ _ _ h => h) HF.out rfl ?_ rfl rfl ?_ ?_
    rotate_left
    · intro w' hF; clear hF; go_simp; try rfl
    rotate_left
    · simp only [Act.put]; exact rfl
    refine Calm.take (i := 5) (v := ?_) (a' := ?_) (l' := #[true, true, true, true, true, true, false, false, false, false, false, false, false, false, false, false, false, false, false, false, false, false, false, false, false, false, false, false]) (d := some 65) rfl (by as_aux_lemma => kernel_rfl) (by as_aux_lemma => kernel_rfl) (by as_aux_lemma => kernel_rfl) (by as_aux_lemma => kernel_rfl) (fun _ _ _ h => h) HF.out rfl ?_ rfl rfl ?_ ?_
    rotate_left
    · intro w' hF; clear hF; go_simp; try rfl
    rotate_left
    · simp only [Act.put]; exact rfl
    refine Calm.take (i := 6) (v := ?_) (a' := ?_) (l' := #[true, true, true, true, true, true, true, false, false, false, false, false, false, false, false, false, false, false, false, false, false, false, false, false, false, false, false, false]) (d := some 66) rfl (by as_aux_lemma => kernel_rfl) (by as_aux_lemma => kernel_rfl) (by as_aux_lemma => kernel_rfl) (by as_aux_lemma => kernel_rfl) (fun _ _ _ h => h) HF.out (by as_aux_lemma => kernel_rfl) ?_ rfl rfl ?_ ?_
    rotate_left
    · intro w' hF; clear hF; go_simp; try rfl
    rotate_left
    · simp only [Act.put]; exact rfl
    refine Calm.take (i := 7) (v := ?_) (a' := ?_) (l' := #[true, true, true, true, true, true, true, true, false, false, false, false, false, false, false, false, false, false, false, false, false, false, false, false, false, false, false, false]) (d := some 67) rfl (by as_aux_lemma => kernel_rfl) (by as_aux_lemma => kernel_rfl) (by as_aux_lemma => kernel_rfl) (by as_aux_lemma => kernel_rfl) (fun _ _ _ h => h) HF.out (by as_aux_lemma => kernel_rfl) ?_ rfl rfl ?_ ?_
    rotate_left
    · intro w' hF; clear hF; go_simp; try rfl
    rotate_left
    · simp only [Act.put]; exact rfl
    refine Calm.one (i := 8) (l' := #[true, true, true, true, true, true, true, true, true, false, false, false, false, false, false, false, false, false, false, false, false, false, false, false, false, false, false, false]) (by as_aux_lemma => kernel_rfl) rfl (by as_aux_lemma => kernel_rfl) rfl fun K hK => ?_
    go_simp
    refine (isrow_yes _ _ (primL xs) _ (irow_intsS RU.out (primL_len xs) (by have := LX.out; unfold maxLen; omega)) (RW.out.below HF.out.1) (fun i => SzI.len (prim_sz SX.out i) (by decide))).mono ?_
    rintro e z2 ⟨rfl, hb⟩
    replace RU := hide (RU.out.step (hb))
    have HF' := hide (And.intro (HF.out.1.trans ((hb).mono HF.out.1.size)) (And.intro (HF.out.2.1.step (hb)) (HF.out.2.2.below (hb))))
    refine hK _ _ (fun _ => HF'.out) ?_
    clear hK K HF hb
    have HF := hide HF'.out
    clear HF'
    refine Calm.take (i := 9) (v := ?_) (a' := ?_) (l' := #[true, true, true, true, true, true, true, true, true, true, false, false, false, false, false, false, false, false, false, false, false, false, false, false, false, false, false, false]) (d := some 69) rfl (by as_aux_lemma => kernel_rfl) (by as_aux_lemma => kernel_rfl) (by as_aux_lemma => kernel_rfl) (by as_aux_lemma => kernel_rfl) (fun _ _ _ h => h) HF.out (by as_aux_lemma => kernel_rfl) ?_ rfl rfl ?_ ?_
    rotate_left
    · intro w' hF; clear hF; go_simp; try rfl
    rotate_left
    · simp only [Act.put]; exact rfl
    refine Calm.take (i := 10) (v := ?_) (a' := ?_) (l' := #[true, true, true, true, true, true, true, true, true, true, true, false, false, false, false, false, false, false, false, false, false, false, false, false, false, false, false, false]) (d := some 70) rfl (by as_aux_lemma => kernel_rfl) (by as_aux_lemma => kernel_rfl) (by as_aux_lemma => kernel_rfl) (by as_aux_lemma => kernel_rfl) (fun _ _ _ h => h) HF.out rfl ?_ rfl rfl ?_ ?_
    rotate_left
    · intro w' hF; clear hF; go_simp; try rfl
    rotate_left
    · simp only [Act.put]; exact rfl
    refine Calm.take (i := 11) (v := ?_) (a' := ?_) (l' := #[true, true, true, true, true, true, true, true, true, true, true, true, false, false, false, false, false, false, false, false, false, false, false, false, false, false, false, false]) (d := some 71) rfl (by as_aux_lemma => kernel_rfl) (by as_aux_lemma => kernel_rfl) (by as_aux_lemma => kernel_rfl) (by as_aux_lemma => kernel_rfl) (fun _ _ _ h => h) HF.out rfl ?_ rfl rfl ?_ ?_
    rotate_left
    · intro w' hF; clear hF; go_simp; try rfl
    rotate_left
    · simp only [Act.put]; exact rfl
    refine Calm.take (i := 12) (v := ?_) (a' := ?_) (l' := #[true, true, true, true, true, true, true, true, true, true, true, true, true, false, false, false, false, false, false, false, false, false, false, false, false, false, false, false]) (d := some 72) rfl (by as_aux_lemma => kernel_rfl) (by as_aux_lemma => kernel_rfl) (by as_aux_lemma => kernel_rfl) (by as_aux_lemma => kernel_rfl) (fun _ _ _ h => h) HF.out (by as_aux_lemma => kernel_rfl) ?_ rfl rfl ?_ ?_
    rotate_left
    · intro w' hF; have f0 := (V11.out.step hF.1).cell0; have f1 := (V11.out.step hF.1).cell1; have f2 := (V13.out.step hF.1).cell0; have f3 := (V13.out.step hF.1).cell1; have f4 := hF.2.1.cell0; have f5 := hF.2.1.cell1; clear hF; go_simp; try rfl
    rotate_left
    · simp only [Act.put]; exact rfl
    refine Calm.take (i := 13) (v := ?_) (a' := ?_) (l' := #[true, true, true, true, true, true, true, true, true, true, true, true, true, true, false, false, false, false, false, false, false, false, false, false, false, false, false, false]) (d := some 73) rfl (by as_aux_lemma => kernel_rfl) (by as_aux_lemma => kernel_rfl) (by as_aux_lemma => kernel_rfl) (by as_aux_lemma => kernel_rfl) (fun _ _ _ h => h) HF.out (by as_aux_lemma => kernel_rfl) ?_ rfl rfl ?_ ?_
    rotate_left
    · intro w' hF; have f0 := (V11.out.step hF.1).cell0; have f1 := (V11.out.step hF.1).cell1; have f2 := (V13.out.step hF.1).cell0; have f3 := (V13.out.step hF.1).cell1; have f4 := hF.2.1.cell0; have f5 := hF.2.1.cell1; clear hF; go_simp; try rfl
    rotate_left
    · simp only [Act.put]; exact rfl
    refine Calm.one (i := 14) (l' := #[true, true, true, true, true, true, true, true, true, true, true, true, true, true, true, false, false, false, false, false, false, false, false, false, false, false, false, false]) (by as_aux_lemma => kernel_rfl) rfl (by as_aux_lemma => kernel_rfl) rfl fun K hK => ?_
    go_simp
    refine (one_yes _ _ (contS xs) _ HF.out.2.2 (I13.out.below HF.out.1) (SzI.len (contS_sz SX.out) (by decide))).mono ?_
    rintro e z3 ⟨rfl, hb⟩
    replace RU := hide (RU.out.step (hb))
    have HF' := hide (And.intro (HF.out.1.trans ((hb).mono HF.out.1.size)) (And.intro (HF.out.2.1.step (hb)) (HF.out.2.2.below (hb))))
    refine hK _ _ (fun _ => HF'.out) ?_
    clear hK K HF hb
    have HF := hide HF'.out
    clear HF'
    refine Calm.take (i := 15) (v := ?_) (a' := ?_) (l' := #[true, true, true, true, true, true, true, true, true, true, true, true, true, true, true, true, false, false, false, false, false, false, false, false, false, false, false, false]) (d := some 75) rfl (by as_aux_lemma => kernel_rfl) (by as_aux_lemma => kernel_rfl) (by as_aux_lemma => kernel_rfl) (by as_aux_lemma => kernel_rfl) (fun _ _ _ h => h) HF.out (by as_aux_lemma => kernel_rfl) ?_ rfl rfl ?_ ?_
    rotate_left
    · intro w' hF; clear hF; go_simp; try rfl
    rotate_left
    · simp only [Act.put]; exact rfl
    refine Calm.take (i := 16) (v := ?_) (a' := ?_) (l' := #[true, true, true, true, true, true, true, true, true, true, true, true, true, true, true, true, true, false, false, false, false, false, false, false, false, false, false, false]) (d := some 76) rfl (by as_aux_lemma => kernel_rfl) (by as_aux_lemma => kernel_rfl) (by as_aux_lemma => kernel_rfl) (by as_aux_lemma => kernel_rfl) (fun _ _ _ h => h) HF.out rfl ?_ rfl rfl ?_ ?_
    rotate_left
    · intro w' hF; clear hF; go_simp; try rfl
    rotate_left
    · simp only [Act.put]; exact rfl
    refine Calm.take (i := 17) (v := ?_) (a' := ?_) (l' := #[true, true, true, true, true, true, true, true, true, true, true, true, true, true, true, true, true, true, false, false, false, false, false, false, false, false, false, false]) (d := some 77) rfl (by as_aux_lemma => kernel_rfl) (by as_aux_lemma => kernel_rfl) (by as_aux_lemma => kernel_rfl) (by as_aux_lemma => kernel_rfl) (fun _ _ _ h => h) HF.out rfl ?_ rfl rfl ?_ ?_
    rotate_left
    · intro w' hF; clear hF; go_simp; try rfl
    rotate_left
    · simp only [Act.put]; exact rfl
    refine Calm.take (i := 18) (v := ?_) (a' := ?_) (l' := #[true, true, true, true, true, true, true, true, true, true, true, true, true, true, true, true, true, true, true, false, false, false, false, false, false, false, false, false]) (d := some 78) rfl (by as_aux_lemma => kernel_rfl) (by as_aux_lemma => kernel_rfl) (by as_aux_lemma => kernel_rfl) (by as_aux_lemma => kernel_rfl) (fun _ _ _ h => h) HF.out (by as_aux_lemma => kernel_rfl) ?_ rfl rfl ?_ ?_
    rotate_left
    · intro w' hF; clear hF; go_simp; try rfl
    rotate_left
    · simp only [Act.put]; exact rfl
    refine Calm.take (i := 19) (v := ?_) (a' := ?_) (l' := #[true, true, true, true, true, true, true, true, true, true, true, true, true, true, true, true, true, true, true, true, false, false, false, false, false, false, false, false]) (d := some 79) rfl (by as_aux_lemma => kernel_rfl) (by as_aux_lemma => kernel_rfl) (by as_aux_lemma => kernel_rfl) (by as_aux_lemma => kernel_rfl) (fun _ _ _ h => h) HF.out (by as_aux_lemma => kernel_rfl) ?_ rfl rfl ?_ ?_
    rotate_left
    · intro w' hF; clear hF; go_simp; try rfl
    rotate_left
    · simp only [Act.put]; exact rfl
    refine Calm.take (i := 20) (v := ?_) (a' := ?_) (l' := #[true, true, true, true, true, true, true, true, true, true, true, true, true, true, true, true, true, true, true, true, true, false, false, false, false, false, false, false]) (d := some 80) rfl (by as_aux_lemma => kernel_rfl) (by as_aux_lemma => kernel_rfl) (by as_aux_lemma => kernel_rfl) (by as_aux_lemma => kernel_rfl) (fun _ _ _ h => h) HF.out (by as_aux_lemma => kernel_rfl) ?_ rfl rfl ?_ ?_
    rotate_left
    · intro w' hF; clear hF; go_simp; try rfl
    rotate_left
    · simp only [Act.put]; exact rfl
    refine Calm.one (i := 21) (l' := #[true, true, true, true, true, true, true, true, true, true, true, true, true, true, true, true, true, true, true, true, true, true, false, false, false, false, false, false]) (by as_aux_lemma => kernel_rfl) rfl (by as_aux_lemma => kernel_rfl) rfl fun K hK => ?_
    go_simp
    refine (own_row bu xs.length (primL xs) _ _ xs wP _ (primL_len xs) HF.out.1 GU.out RU.out (by have := LX.out; omega) XA.out PA.out (fun i => SzI.len (SX.out i) (by decide))).mono ?_
    rintro e z4 ⟨rfl, hkb, hW⟩
    have hb := True.intro
    clear RU
    have HF' := hide (And.intro (hW) (And.intro (Box.kept HF.out.2.1 hkb (Nat.ne_of_gt LU.out)) (HF.out.2.2.keep hkb.limbs)))
    refine hK _ _ (fun _ => HF'.out) ?_
    clear hK K HF hb hkb hW
    have HF := hide HF'.out
    clear HF'
    refine Calm.take (i := 22) (v := ?_) (a' := ?_) (l' := #[true, true, true, true, true, true, true, true, true, true, true, true, true, true, true, true, true, true, true, true, true, true, true, false, false, false, false, false]) (d := some 82) rfl (by as_aux_lemma => kernel_rfl) (by as_aux_lemma => kernel_rfl) (by as_aux_lemma => kernel_rfl) (by as_aux_lemma => kernel_rfl) (fun _ _ _ h => h) HF.out (by as_aux_lemma => kernel_rfl) ?_ rfl rfl ?_ ?_
    rotate_left
    · intro w' hF; clear hF; go_simp; try rfl
    rotate_left
    · simp only [Act.put]; exact rfl
    refine Calm.take (i := 23) (v := ?_) (a' := ?_) (l' := #[true, true, true, true, true, true, true, true, true, true, true, true, true, true, true, true, true, true, true, true, true, true, true, true, false, false, false, false]) (d := some 83) rfl (by as_aux_lemma => kernel_rfl) (by as_aux_lemma => kernel_rfl) (by as_aux_lemma => kernel_rfl) (by as_aux_lemma => kernel_rfl) (fun _ _ _ h => h) HF.out rfl ?_ rfl rfl ?_ ?_
    rotate_left
    · intro w' hF; clear hF; go_simp; try rfl
    rotate_left
    · simp only [Act.put]; exact rfl
    refine Calm.take (i := 24) (v := ?_) (a' := ?_) (l' := #[true, true, true, true, true, true, true, true, true, true, true, true, true, true, true, true, true, true, true, true, true, true, true, true, true, false, false, false]) (d := some 84) rfl (by as_aux_lemma => kernel_rfl) (by as_aux_lemma => kernel_rfl) (by as_aux_lemma => kernel_rfl) (by as_aux_lemma => kernel_rfl) (fun _ _ _ h => h) HF.out rfl ?_ rfl rfl ?_ ?_
    rotate_left
    · intro w' hF; clear hF; go_simp; try rfl
    rotate_left
    · simp only [Act.put]; exact rfl
    refine Calm.one (i := 25) (l' := #[true, true, true, true, true, true, true, true, true, true, true, true, true, true, true, true, true, true, true, true, true, true, true, true, true, true, false, false]) (by as_aux_lemma => kernel_rfl) rfl (by as_aux_lemma => kernel_rfl) rfl fun K hK => ?_
    go_simp
    refine (rlive_any _).mono ?_
    rintro e z5 ⟨rfl, hb⟩
    have HF' := hide (And.intro (HF.out.1.trans ((hb).mono HF.out.1.size)) (And.intro (HF.out.2.1.step (hb)) (HF.out.2.2.below (hb))))
    refine hK _ _ (fun _ => HF'.out) ?_
    clear hK K HF hb
    have HF := hide HF'.out
    clear HF'
    refine Calm.take (i := 26) (v := ?_) (a' := ?_) (l' := #[true, true, true, true, true, true, true, true, true, true, true, true, true, true, true, true, true, true, true, true, true, true, true, true, true, true, true, false]) (d := some 86) rfl (by as_aux_lemma => kernel_rfl) (by as_aux_lemma => kernel_rfl) (by as_aux_lemma => kernel_rfl) (by as_aux_lemma => kernel_rfl) (fun _ _ _ h => h) HF.out (by as_aux_lemma => kernel_rfl) ?_ rfl rfl ?_ ?_
    rotate_left
    · intro w' hF; clear hF; go_simp; try rfl
    rotate_left
    · simp only [Act.put]; exact rfl
    refine Calm.take (i := 27) (v := ?_) (a' := ?_) (l' := #[true, true, true, true, true, true, true, true, true, true, true, true, true, true, true, true, true, true, true, true, true, true, true, true, true, true, true, true]) (d := some 87) rfl (by as_aux_lemma => kernel_rfl) (by as_aux_lemma => kernel_rfl) (by as_aux_lemma => kernel_rfl) (by as_aux_lemma => kernel_rfl) (fun _ _ _ h => h) HF.out rfl ?_ rfl rfl ?_ ?_
    rotate_left
    · intro w' hF; clear hF; go_simp; try rfl
    rotate_left
    · simp only [Act.put]; exact rfl
    refine Calm.done (by as_aux_lemma => kernel_rfl) ?_
    replace HB := hide (HB.out.trans ((HF.out.1).mono HB.out.size))
    replace XA := hide (XA.out.below (HF.out.1))
    replace PA := hide (PA.out.below (HF.out.1))
    replace VA := hide (VA.out.step (HF.out.1))
    replace VM := hide (VM.out.step (HF.out.1))
    replace IA := hide (IA.out.below (HF.out.1))
    replace IM := hide (IM.out.below (HF.out.1))
    replace I11 := hide (I11.out.below (HF.out.1))
    replace V11 := hide (V11.out.step (HF.out.1))
    replace RW := hide (RW.out.below (HF.out.1))
    replace I13 := hide (I13.out.below (HF.out.1))
    replace V13 := hide (V13.out.step (HF.out.1))
    clear HF HP GU LU V15 I15 V11 V13 I11 I13 RW
    simp only [List.setIfInBounds_toArray, List.set_cons_succ, List.set_cons_zero]
    have c0 := VM.out.cell0
    have c1 := VM.out.cell1
    go_wp2_with fail
    refine (rsign_any _ m _ IM.out).mono ?_
    rintro e w14 ⟨rfl, hb⟩
    clear c0 c1
    replace HB := hide (HB.out.trans ((hb).mono HB.out.size))
    replace XA := hide (XA.out.below (hb))
    replace PA := hide (PA.out.below (hb))
    replace VA := hide (VA.out.step (hb))
    replace VM := hide (VM.out.step (hb))
    replace IA := hide (IA.out.below (hb))
    replace IM := hide (IM.out.below (hb))
    clear hb
    rw [show sgnI m = 0 from by rw [M0.out]; rfl]
    go_wp2
    go_ret
    exact ⟨rfl, HB.out⟩
  · have MN := hide hm0
    clear hm0
    have VA0 := VA.out.cell0
    have VA1 := VA.out.cell1
    go_wp2_with fail
    refine (roverL_any _ _ xs m 300 _ XA.out IA.out MN.out (by have := LX.out; omega) SX.out SM.out (by decide)).mono ?_
    rintro e w7 hov
    clear VA0 VA1
    rcases hov with ⟨e0, bl, rfl, hge, hr, hb1⟩ | ⟨e20, rfl, hb1⟩
    · skip
      have E0 := hide e0
      clear e0
      replace hr : IRow _ bl (qoL xs m) := hr
      have hb := hb1
      clear hb1
      have W5 := hide (Below.refl w5.heap.size w5)
      have X5 := hide XA.out
      have P5 := hide PA.out
      have GL := hide hge
      replace HB := hide (HB.out.trans ((hb).mono HB.out.size))
      replace XA := hide (XA.out.below (hb))
      replace PA := hide (PA.out.below (hb))
      replace VA := hide (VA.out.step (hb))
      replace VM := hide (VM.out.step (hb))
      replace IA := hide (IA.out.below (hb))
      replace IM := hide (IM.out.below (hb))
      replace W5 := hide (W5.out.trans ((hb).mono W5.out.size))
      have RL := hide hr
      clear hb hr hge
      go_wp2_with fail
      refine (r4content_any _ xs 300 _ PA.out SX.out (by decide)).mono ?_
      rintro e w8 ⟨v, rfl, i, hb⟩
      obtain ⟨s1, m1, l1, c1, rfl, i⟩ := i.cellsW
      replace HB := hide (HB.out.trans ((hb).mono HB.out.size))
      replace XA := hide (XA.out.below (hb))
      replace PA := hide (PA.out.below (hb))
      replace VA := hide (VA.out.step (hb))
      replace VM := hide (VM.out.step (hb))
      replace IA := hide (IA.out.below (hb))
      replace IM := hide (IM.out.below (hb))
      replace W5 := hide (W5.out.trans ((hb).mono W5.out.size))
      replace RL := hide (RL.out.step (hb))
      have I11 := hide i
      clear i hb
      go_upto_region 9 with fail
      have al := below_alloc w8 (.cells #[.bool s1, .slice m1 l1 c1] 39)
      replace HB := hide (HB.out.trans ((al).mono HB.out.size))
      replace XA := hide (XA.out.below (al))
      replace PA := hide (PA.out.below (al))
      replace VA := hide (VA.out.step (al))
      replace VM := hide (VM.out.step (al))
      replace IA := hide (IA.out.below (al))
      replace IM := hide (IM.out.below (al))
      replace W5 := hide (W5.out.trans ((al).mono W5.out.size))
      replace RL := hide (RL.out.step (al))
      replace I11 := hide (I11.out.below (al))
      clear al
      have V11 := hide (Box2.new w8 39 (.bool s1) (.slice m1 l1 c1))
      generalize w8.alloc (.cells #[.bool s1, .slice m1 l1 c1] 39) = w9 at *
      generalize w8.heap.size = g11 at *
      go_wp2_with fail
      refine (r4prim_any _ xs 300 _ PA.out (by have := LX.out; omega) SX.out (by decide)).mono ?_
      rintro e w10 ⟨vW, v, rfl, hr, i, hb⟩
      obtain ⟨s2, m2, l2, c2, rfl, i⟩ := i.cellsW
      replace HB := hide (HB.out.trans ((hb).mono HB.out.size))
      replace XA := hide (XA.out.below (hb))
      replace PA := hide (PA.out.below (hb))
      replace VA := hide (VA.out.step (hb))
      replace VM := hide (VM.out.step (hb))
      replace IA := hide (IA.out.below (hb))
      replace IM := hide (IM.out.below (hb))
      replace W5 := hide (W5.out.trans ((hb).mono W5.out.size))
      replace RL := hide (RL.out.step (hb))
      replace I11 := hide (I11.out.below (hb))
      replace V11 := hide (V11.out.step (hb))
      have RW := hide hr
      have I13 := hide i
      clear hr i hb
      go_upto_region 10 with fail
      have al := below_alloc w10 (.cells #[.bool s2, .slice m2 l2 c2] 39)
      replace HB := hide (HB.out.trans ((al).mono HB.out.size))
      replace XA := hide (XA.out.below (al))
      replace PA := hide (PA.out.below (al))
      replace VA := hide (VA.out.step (al))
      replace VM := hide (VM.out.step (al))
      replace IA := hide (IA.out.below (al))
      replace IM := hide (IM.out.below (al))
      replace W5 := hide (W5.out.trans ((al).mono W5.out.size))
      replace RL := hide (RL.out.step (al))
      replace I11 := hide (I11.out.below (al))
      replace V11 := hide (V11.out.step (al))
      replace RW := hide (RW.out.below (al))
      replace I13 := hide (I13.out.below (al))
      clear al
      have V13 := hide (Box2.new w10 39 (.bool s2) (.slice m2 l2 c2))
      generalize w10.alloc (.cells #[.bool s2, .slice m2 l2 c2] 39) = wP at *
      generalize w10.heap.size = g13 at *
      go_wp2_with fail
      refine (prim_any _ xs 300 _ XA.out (by have := LX.out; omega) SX.out (by decide)).mono ?_
      rintro e w11 ⟨bu, v, rfl, hge, hr, i, hb⟩
      obtain ⟨s3, m3, l3, c3, rfl, i⟩ := i.cells
      have HP := hide hb
      have RU := hide hr
      have GU := hide hge
      have I15 := hide i
      clear hr hge i hb
      go_upto_region 11 with fail
      have al := below_alloc w11 (.cells #[.bool s3, .slice m3 l3 c3] 36)
      replace HP := hide (HP.out.trans (al.mono HP.out.size))
      have LU := hide RU.out.lt
      replace RU := hide (RU.out.step al)
      replace I15 := hide (I15.out.below al)
      clear al
      have V15 := hide (Box.new w11 (.bool s3) (.slice m3 l3 c3))
      generalize w11.alloc (.cells #[.bool s3, .slice m3 l3 c3] 36) = w12 at *
      generalize w11.heap.size = g15 at *
      replace RU := hide RU.out.drew
      refine wp_calm (fun w' => Below wP.heap.size wP w' ∧ Box w' g15 (.bool s3) (.slice m3 l3 c3) ∧ IntAt w' (.agg #[.bool s3, .slice m3 l3 c3]) (contS xs)) (fun _ => true) 28 #[false, false, false, false, false, false, false, false, false, false, false, false, false, false, false, false, false, false, false, false, false, false, false, false, false, false, false, false] (by as_aux_lemma => kernel_rfl) rfl rfl ?_
      have HF := hide (And.intro (HP.out.drew) (And.intro (V15.out.drew) (I15.out.drew)))
      generalize w12.drew = w12d at *
      refine Calm.take (i := 0) (v := ?_) (a' := ?_) (l' := #[true, false, false, false, false, false, false, false, false, false, false, false, false, false, false, false, false, false, false, false, false, false, false, false, false, false, false, false]) (d := some 60) rfl (by as_aux_lemma => kernel_rfl) (by as_aux_lemma => kernel_rfl) (by as_aux_lemma => kernel_rfl) (by as_aux_lemma => kernel_rfl) (fun _ _ _ h => h) HF.out rfl ?_ rfl rfl ?_ ?_
      rotate_left
      · intro w' hF; clear hF; go_simp; try rfl
      rotate_left
      · simp only [Act.put]; exact rfl
      refine Calm.take (i := 2) (v := ?_) (a' := ?_) (l' := #[true, false, true, false, false, false, false, false, false, false, false, false, false, false, false, false, false, false, false, false, false, false, false, false, false, false, false, false]) (d := some 62) rfl (by as_aux_lemma => kernel_rfl) (by as_aux_lemma => kernel_rfl) (by as_aux_lemma => kernel_rfl) (by as_aux_lemma => kernel_rfl) (fun _ _ _ h => h) HF.out rfl ?_ rfl rfl ?_ ?_
      rotate_left
      · intro w' hF; have f0 := (V11.out.step hF.1).cell0; have f1 := (V11.out.step hF.1).cell1; have f2 := (V13.out.step hF.1).cell0; have f3 := (V13.out.step hF.1).cell1; have f4 := hF.2.1.cell0; have f5 := hF.2.1.cell1; clear hF; go_simp; try rfl
      rotate_left
      · simp only [Act.put]; exact rfl
      refine Calm.one (i := 1) (l' := #[true, true, true, false, false, false, false, false, false, false, false, false, false, false, false, false, false, false, false, false, false, false, false, false, false, false, false, false]) (by as_aux_lemma => kernel_rfl) rfl rfl rfl fun K hK => ?_
      go_simp
      refine (content_any _ xs 300 _ (XA.out.below HF.out.1) SX.out (by decide)).mono ?_
      rintro e z0 ⟨v, rfl, i, hb⟩
      replace RU := hide (RU.out.step (hb))
      have HF' := hide (And.intro (HF.out.1.trans ((hb).mono HF.out.1.size)) (And.intro (HF.out.2.1.step (hb)) (HF.out.2.2.below (hb))))
      have T1 := hide (i)
      refine hK _ _ (fun _ => HF'.out) ?_
      clear hK K HF hb i
      have HF := hide HF'.out
      clear HF'
      refine Calm.one (i := 3) (l' := #[true, true, true, true, false, false, false, false, false, false, false, false, false, false, false, false, false, false, false, false, false, false, false, false, false, false, false, false]) (by as_aux_lemma => kernel_rfl) rfl rfl rfl fun K hK => ?_
      go_simp
      refine (one_yes _ _ (gcdTo xs xs.length : Int) _ T1.out (I11.out.below HF.out.1) (SzI.len (gcdTo_sz SX.out xs.length) (by decide))).mono ?_
      rintro e z1 ⟨rfl, hb⟩
      replace RU := hide (RU.out.step (hb))
      clear T1
      have HF' := hide (And.intro (HF.out.1.trans ((hb).mono HF.out.1.size)) (And.intro (HF.out.2.1.step (hb)) (HF.out.2.2.below (hb))))
      refine hK _ _ (fun _ => HF'.out) ?_
      clear hK K HF hb
      have HF := hide HF'.out
      clear HF'
      refine Calm.take (i := 4) (v := ?_) (a' := ?_) (l' := #[true, true, true, true, true, false, false, false, false, false, false, false, false, false, false, false, false, false, false, false, false, false, false, false, false, false, false, false]) (d := some 64) rfl (by as_aux_lemma => kernel_rfl) (by as_aux_lemma => kernel_rfl) (by as_aux_lemma => kernel_rfl) (by as_aux_lemma => kernel_rfl) (fun _ _ _ h => h) HF.out rfl ?_ rfl rfl ?_ ?_
      rotate_left
      · intro w' hF; clear hF; go_simp; try rfl
      rotate_left
      · simp only [Act.put]; exact rfl
      refine Calm.take (i := 5) (v := ?_) (a' := ?_) (l' := #[true, true, true, true, true, true, false, false, false, false, false, false, false, false, false, false, false, false, false, false, false, false, false, false, false, false, false, false]) (d := some 65) rfl (by as_aux_lemma => kernel_rfl) (by as_aux_lemma => kernel_rfl) (by as_aux_lemma => kernel_rfl) (by as_aux_lemma => kernel_rfl) (fun _ _ _ h => h) HF.out rfl ?_ rfl rfl ?_ ?_
      rotate_left
      · intro w' hF; clear hF; go_simp; try rfl
      rotate_left
      · simp only [Act.put]; exact rfl
      refine Calm.take (i := 6) (v := ?_) (a' := ?_) (l' := #[true, true, true, true, true, true, true, false, false, false, false, false, false, false, false, false, false, false, false, false, false, false, false, false, false, false, false, false]) (d := some 66) rfl (by as_aux_lemma => kernel_rfl) (by as_aux_lemma => kernel_rfl) (by as_aux_lemma => kernel_rfl) (by as_aux_lemma => kernel_rfl) (fun _ _ _ h => h) HF.out (by as_aux_lemma => kernel_rfl) ?_ rfl rfl ?_ ?_
      rotate_left
      · intro w' hF; clear hF; go_simp; try rfl
      rotate_left
      · simp only [Act.put]; exact rfl
      refine Calm.take (i := 7) (v := ?_) (a' := ?_) (l' := #[true, true, true, true, true, true, true, true, false, false, false, false, false, false, false, false, false, false, false, false, false, false, false, false, false, false, false, false]) (d := some 67) rfl (by as_aux_lemma => kernel_rfl) (by as_aux_lemma => kernel_rfl) (by as_aux_lemma => kernel_rfl) (by as_aux_lemma => kernel_rfl) (fun _ _ _ h => h) HF.out (by as_aux_lemma => kernel_rfl) ?_ rfl rfl ?_ ?_
      rotate_left
      · intro w' hF; clear hF; go_simp; try rfl
      rotate_left
      · simp only [Act.put]; exact rfl
      refine Calm.one (i := 8) (l' := #[true, true, true, true, true, true, true, true, true, false, false, false, false, false, false, false, false, false, false, false, false, false, false, false, false, false, false, false]) (by as_aux_lemma => kernel_rfl) rfl (by as_aux_lemma => kernel_rfl) rfl fun K hK => ?_
      go_simp
      refine (isrow_yes _ _ (primL xs) _ (irow_intsS RU.out (primL_len xs) (by have := LX.out; unfold maxLen; omega)) (RW.out.below HF.out.1) (fun i => SzI.len (prim_sz SX.out i) (by decide))).mono ?_
      rintro e z2 ⟨rfl, hb⟩
      replace RU := hide (RU.out.step (hb))
      have HF' := hide (And.intro (HF.out.1.trans ((hb).mono HF.out.1.size)) (And.intro (HF.out.2.1.step (hb)) (HF.out.2.2.below (hb))))
      refine hK _ _ (fun _ => HF'.out) ?_
      clear hK K HF hb
      have HF := hide HF'.out
      clear HF'
      refine Calm.take (i := 9) (v := ?_) (a' := ?_) (l' := #[true, true, true, true, true, true, true, true, true, true, false, false, false, false, false, false, false, false, false, false, false, false, false, false, false, false, false, false]) (d := some 69) rfl (by as_aux_lemma => kernel_rfl) (by as_aux_lemma => kernel_rfl) (by as_aux_lemma => kernel_rfl) (by as_aux_lemma => kernel_rfl) (fun _ _ _ h => h) HF.out (by as_aux_lemma => kernel_rfl) ?_ rfl rfl ?_ ?_
      rotate_left
      · intro w' hF; clear hF; go_simp; try rfl
      rotate_left
      · simp only [Act.put]; exact rfl
      refine Calm.take (i := 10) (v := ?_) (a' := ?_) (l' := #[true, true, true, true, true, true, true, true, true, true, true, false, false, false, false, false, false, false, false, false, false, false, false, false, false, false, false, false]) (d := some 70) rfl (by as_aux_lemma => kernel_rfl) (by as_aux_lemma => kernel_rfl) (by as_aux_lemma => kernel_rfl) (by as_aux_lemma => kernel_rfl) (fun _ _ _ h => h) HF.out rfl ?_ rfl rfl ?_ ?_
      rotate_left
      · intro w' hF; clear hF; go_simp; try rfl
      rotate_left
      · simp only [Act.put]; exact rfl
      refine Calm.take (i := 11) (v := ?_) (a' := ?_) (l' := #[true, true, true, true, true, true, true, true, true, true, true, true, false, false, false, false, false, false, false, false, false, false, false, false, false, false, false, false]) (d := some 71) rfl (by as_aux_lemma => kernel_rfl) (by as_aux_lemma => kernel_rfl) (by as_aux_lemma => kernel_rfl) (by as_aux_lemma => kernel_rfl) (fun _ _ _ h => h) HF.out rfl ?_ rfl rfl ?_ ?_
      rotate_left
      · intro w' hF; clear hF; go_simp; try rfl
      rotate_left
      · simp only [Act.put]; exact rfl
      refine Calm.take (i := 12) (v := ?_) (a' := ?_) (l' := #[true, true, true, true, true, true, true, true, true, true, true, true, true, false, false, false, false, false, false, false, false, false, false, false, false, false, false, false]) (d := some 72) rfl (by as_aux_lemma => kernel_rfl) (by as_aux_lemma => kernel_rfl) (by as_aux_lemma => kernel_rfl) (by as_aux_lemma => kernel_rfl) (fun _ _ _ h => h) HF.out (by as_aux_lemma => kernel_rfl) ?_ rfl rfl ?_ ?_
      rotate_left
      · intro w' hF; have f0 := (V11.out.step hF.1).cell0; have f1 := (V11.out.step hF.1).cell1; have f2 := (V13.out.step hF.1).cell0; have f3 := (V13.out.step hF.1).cell1; have f4 := hF.2.1.cell0; have f5 := hF.2.1.cell1; clear hF; go_simp; try rfl
      rotate_left
      · simp only [Act.put]; exact rfl
      refine Calm.take (i := 13) (v := ?_) (a' := ?_) (l' := #[true, true, true, true, true, true, true, true, true, true, true, true, true, true, false, false, false, false, false, false, false, false, false, false, false, false, false, false]) (d := some 73) rfl (by as_aux_lemma => kernel_rfl) (by as_aux_lemma => kernel_rfl) (by as_aux_lemma => kernel_rfl) (by as_aux_lemma => kernel_rfl) (fun _ _ _ h => h) HF.out (by as_aux_lemma => kernel_rfl) ?_ rfl rfl ?_ ?_
      rotate_left
      · intro w' hF; have f0 := (V11.out.step hF.1).cell0; have f1 := (V11.out.step hF.1).cell1; have f2 := (V13.out.step hF.1).cell0; have f3 := (V13.out.step hF.1).cell1; have f4 := hF.2.1.cell0; have f5 := hF.2.1.cell1; clear hF; go_simp; try rfl
      rotate_left
      · simp only [Act.put]; exact rfl
      refine Calm.one (i := 14) (l' := #[true, true, true, true, true, true, true, true, true, true, true, true, true, true, true, false, false, false, false, false, false, false, false, false, false, false, false, false]) (by as_aux_lemma => kernel_rfl) rfl (by as_aux_lemma => kernel_rfl) rfl fun K hK => ?_
      go_simp
      refine (one_yes _ _ (contS xs) _ HF.out.2.2 (I13.out.below HF.out.1) (SzI.len (contS_sz SX.out) (by decide))).mono ?_
      rintro e z3 ⟨rfl, hb⟩
      replace RU := hide (RU.out.step (hb))
      have HF' := hide (And.intro (HF.out.1.trans ((hb).mono HF.out.1.size)) (And.intro (HF.out.2.1.step (hb)) (HF.out.2.2.below (hb))))
      refine hK _ _ (fun _ => HF'.out) ?_
      clear hK K HF hb
      have HF := hide HF'.out
      clear HF'
      refine Calm.take (i := 15) (v := ?_) (a' := ?_) (l' := #[true, true, true, true, true, true, true, true, true, true, true, true, true, true, true, true, false, false, false, false, false, false, false, false, false, false, false, false]) (d := some 75) rfl (by as_aux_lemma => kernel_rfl) (by as_aux_lemma => kernel_rfl) (by as_aux_lemma => kernel_rfl) (by as_aux_lemma => kernel_rfl) (fun _ _ _ h => h) HF.out (by as_aux_lemma => kernel_rfl) ?_ rfl rfl ?_ ?_
      rotate_left
      · intro w' hF; clear hF; go_simp; try rfl
      rotate_left
      · simp only [Act.put]; exact rfl
      refine Calm.take (i := 16) (v := ?_) (a' := ?_) (l' := #[true, true, true, true, true, true, true, true, true, true, true, true, true, true, true, true, true, false, false, false, false, false, false, false, false, false, false, false]) (d := some 76) rfl (by as_aux_lemma => kernel_rfl) (by as_aux_lemma => kernel_rfl) (by as_aux_lemma => kernel_rfl) (by as_aux_lemma => kernel_rfl) (fun _ _ _ h => h) HF.out rfl ?_ rfl rfl ?_ ?_
      rotate_left
      · intro w' hF; clear hF; go_simp; try rfl
      rotate_left
      · simp only [Act.put]; exact rfl
      refine Calm.take (i := 17) (v := ?_) (a' := ?_) (l' := #[true, true, true, true, true, true, true, true, true, true, true, true, true, true, true, true, true, true, false, false, false, false, false, false, false, false, false, false]) (d := some 77) rfl (by as_aux_lemma => kernel_rfl) (by as_aux_lemma => kernel_rfl) (by as_aux_lemma => kernel_rfl) (by as_aux_lemma => kernel_rfl) (fun _ _ _ h => h) HF.out rfl ?_ rfl rfl ?_ ?_
      rotate_left
      · intro w' hF; clear hF; go_simp; try rfl
      rotate_left
      · simp only [Act.put]; exact rfl
      refine Calm.take (i := 18) (v := ?_) (a' := ?_) (l' := #[true, true, true, true, true, true, true, true, true, true, true, true, true, true, true, true, true, true, true, false, false, false, false, false, false, false, false, false]) (d := some 78) rfl (by as_aux_lemma => kernel_rfl) (by as_aux_lemma => kernel_rfl) (by as_aux_lemma => kernel_rfl) (by as_aux_lemma => kernel_rfl) (fun _ _ _ h => h) HF.out (by as_aux_lemma => kernel_rfl) ?_ rfl rfl ?_ ?_
      rotate_left
      · intro w' hF; clear hF; go_simp; try rfl
      rotate_left
      · simp only [Act.put]; exact rfl
      refine Calm.take (i := 19) (v := ?_) (a' := ?_) (l' := #[true, true, true, true, true, true, true, true, true, true, true, true, true, true, true, true, true, true, true, true, false, false, false, false, false, false, false, false]) (d := some 79) rfl (by as_aux_lemma => kernel_rfl) (by as_aux_lemma => kernel_rfl) (by as_aux_lemma => kernel_rfl) (by as_aux_lemma => kernel_rfl) (fun _ _ _ h => h) HF.out (by as_aux_lemma => kernel_rfl) ?_ rfl rfl ?_ ?_
      rotate_left
      · intro w' hF; clear hF; go_simp; try rfl
      rotate_left
      · simp only [Act.put]; exact rfl
      refine Calm.take (i := 20) (v := ?_) (a' := ?_) (l' := #[true, true, true, true, true, true, true, true, true, true, true, true, true, true, true, true, true, true, true, true, true, false, false, false, false, false, false, false]) (d := some 80) rfl (by as_aux_lemma => kernel_rfl) (by as_aux_lemma => kernel_rfl) (by as_aux_lemma => kernel_rfl) (by as_aux_lemma => kernel_rfl) (fun _ _ _ h => h) HF.out (by as_aux_lemma => kernel_rfl) ?_ rfl rfl ?_ ?_
      rotate_left
      · intro w' hF; clear hF; go_simp; try rfl
      rotate_left
      · simp only [Act.put]; exact rfl
      refine Calm.one (i := 21) (l' := #[true, true, true, true, true, true, true, true, true, true, true, true, true, true, true, true, true, true, true, true, true, true, false, false, false, false, false, false]) (by as_aux_lemma => kernel_rfl) rfl (by as_aux_lemma => kernel_rfl) rfl fun K hK => ?_
      go_simp
      refine (own_row bu xs.length (primL xs) _ _ xs wP _ (primL_len xs) HF.out.1 GU.out RU.out (by have := LX.out; omega) XA.out PA.out (fun i => SzI.len (SX.out i) (by decide))).mono ?_
      rintro e z4 ⟨rfl, hkb, hW⟩
      have hb := True.intro
      clear RU
      have HF' := hide (And.intro (hW) (And.intro (Box.kept HF.out.2.1 hkb (Nat.ne_of_gt LU.out)) (HF.out.2.2.keep hkb.limbs)))
      refine hK _ _ (fun _ => HF'.out) ?_
      clear hK K HF hb hkb hW
      have HF := hide HF'.out
      clear HF'
      refine Calm.take (i := 22) (v := ?_) (a' := ?_) (l' := #[true, true, true, true, true, true, true, true, true, true, true, true, true, true, true, true, true, true, true, true, true, true, true, false, false, false, false, false]) (d := some 82) rfl (by as_aux_lemma => kernel_rfl) (by as_aux_lemma => kernel_rfl) (by as_aux_lemma => kernel_rfl) (by as_aux_lemma => kernel_rfl) (fun _ _ _ h => h) HF.out (by as_aux_lemma => kernel_rfl) ?_ rfl rfl ?_ ?_
      rotate_left
      · intro w' hF; clear hF; go_simp; try rfl
      rotate_left
      · simp only [Act.put]; exact rfl
      refine Calm.take (i := 23) (v := ?_) (a' := ?_) (l' := #[true, true, true, true, true, true, true, true, true, true, true, true, true, true, true, true, true, true, true, true, true, true, true, true, false, false, false, false]) (d := some 83) rfl (by as_aux_lemma => kernel_rfl) (by as_aux_lemma => kernel_rfl) (by as_aux_lemma => kernel_rfl) (by as_aux_lemma => kernel_rfl) (fun _ _ _ h => h) HF.out rfl ?_ rfl rfl ?_ ?_
      rotate_left
      · intro w' hF; clear hF; go_simp; try rfl
      rotate_left
      · simp only [Act.put]; exact rfl
      refine Calm.take (i := 24) (v := ?_) (a' := ?_) (l' := #[true, true, true, true, true, true, true, true, true, true, true, true, true, true, true, true, true, true, true, true, true, true, true, true, true, false, false, false]) (d := some 84) rfl (by as_aux_lemma => kernel_rfl) (by as_aux_lemma => kernel_rfl) (by as_aux_lemma => kernel_rfl) (by as_aux_lemma => kernel_rfl) (fun _ _ _ h => h) HF.out rfl ?_ rfl rfl ?_ ?_
      rotate_left
      · intro w' hF; clear hF; go_simp; try rfl
      rotate_left
      · simp only [Act.put]; exact rfl
      refine Calm.one (i := 25) (l' := #[true, true, true, true, true, true, true, true, true, true, true, true, true, true, true, true, true, true, true, true, true, true, true, true, true, true, false, false]) (by as_aux_lemma => kernel_rfl) rfl (by as_aux_lemma => kernel_rfl) rfl fun K hK => ?_
      go_simp
      refine (rlive_any _).mono ?_
      rintro e z5 ⟨rfl, hb⟩
      have HF' := hide (And.intro (HF.out.1.trans ((hb).mono HF.out.1.size)) (And.intro (HF.out.2.1.step (hb)) (HF.out.2.2.below (hb))))
      refine hK _ _ (fun _ => HF'.out) ?_
      clear hK K HF hb
      have HF := hide HF'.out
      clear HF'
      refine Calm.take (i := 26) (v := ?_) (a' := ?_) (l' := #[true, true, true, true, true, true, true, true, true, true, true, true, true, true, true, true, true, true, true, true, true, true, true, true, true, true, true, false]) (d := some 86) rfl (by as_aux_lemma => kernel_rfl) (by as_aux_lemma => kernel_rfl) (by as_aux_lemma => kernel_rfl) (by as_aux_lemma => kernel_rfl) (fun _ _ _ h => h) HF.out (by as_aux_lemma => kernel_rfl) ?_ rfl rfl ?_ ?_
      rotate_left
      · intro w' hF; clear hF; go_simp; try rfl
      rotate_left
      · simp only [Act.put]; exact rfl
      refine Calm.take (i := 27) (v := ?_) (a' := ?_) (l' := #[true, true, true, true, true, true, true, true, true, true, true, true, true, true, true, true, true, true, true, true, true, true, true, true, true, true, true, true]) (d := some 87) rfl (by as_aux_lemma => kernel_rfl) (by as_aux_lemma => kernel_rfl) (by as_aux_lemma => kernel_rfl) (by as_aux_lemma => kernel_rfl) (fun _ _ _ h => h) HF.out rfl ?_ rfl rfl ?_ ?_
      rotate_left
      · intro w' hF; clear hF; go_simp; try rfl
      rotate_left
      · simp only [Act.put]; exact rfl
      refine Calm.done (by as_aux_lemma => kernel_rfl) ?_
      replace HB := hide (HB.out.trans ((HF.out.1).mono HB.out.size))
      replace XA := hide (XA.out.below (HF.out.1))
      replace PA := hide (PA.out.below (HF.out.1))
      replace VA := hide (VA.out.step (HF.out.1))
      replace VM := hide (VM.out.step (HF.out.1))
      replace IA := hide (IA.out.below (HF.out.1))
      replace IM := hide (IM.out.below (HF.out.1))
      replace W5 := hide (W5.out.trans ((HF.out.1).mono W5.out.size))
      replace RL := hide (RL.out.step (HF.out.1))
      replace I11 := hide (I11.out.below (HF.out.1))
      replace V11 := hide (V11.out.step (HF.out.1))
      replace RW := hide (RW.out.below (HF.out.1))
      replace I13 := hide (I13.out.below (HF.out.1))
      replace V13 := hide (V13.out.step (HF.out.1))
      clear HF HP GU LU V15 I15 V11 V13 I11 I13 RW
      simp only [List.setIfInBounds_toArray, List.set_cons_succ, List.set_cons_zero]
      have c0 := VM.out.cell0
      have c1 := VM.out.cell1
      go_wp2_with fail
      refine (rsign_any _ m _ IM.out).mono ?_
      rintro e w14 ⟨rfl, hb⟩
      clear c0 c1
      replace HB := hide (HB.out.trans ((hb).mono HB.out.size))
      replace XA := hide (XA.out.below (hb))
      replace PA := hide (PA.out.below (hb))
      replace VA := hide (VA.out.step (hb))
      replace VM := hide (VM.out.step (hb))
      replace IA := hide (IA.out.below (hb))
      replace IM := hide (IM.out.below (hb))
      replace W5 := hide (W5.out.trans ((hb).mono W5.out.size))
      replace RL := hide (RL.out.step (hb))
      clear hb
      have hsg : (sgnI m == 0) = false := sgnI_ne0 MN.out
      have c0 := VM.out.cell0
      have c1 := VM.out.cell1
      go_wp2_with fail
      refine (r4over_any _ _ xs m 300 _ PA.out IM.out MN.out (by have := LX.out; omega) SX.out SM.out (by decide)).mono ?_
      rintro e w15 hov
      clear c0 c1 hsg
      rcases hov with ⟨_, vq, rfl, hq, _, hb⟩ | ⟨h20, _⟩
      rotate_left
      · exact absurd h20 (by rw [E0.out]; decide)
      replace HB := hide (HB.out.trans ((hb).mono HB.out.size))
      replace XA := hide (XA.out.below (hb))
      replace PA := hide (PA.out.below (hb))
      replace VA := hide (VA.out.step (hb))
      replace VM := hide (VM.out.step (hb))
      replace IA := hide (IA.out.below (hb))
      replace IM := hide (IM.out.below (hb))
      replace W5 := hide (W5.out.trans ((hb).mono W5.out.size))
      replace RL := hide (RL.out.step (hb))
      have RQ := hide hq
      clear hb hq
      go_upto_region 18 with fail
      refine wp_calm (fun w' => Below w15.heap.size w15 w') (fun _ => true) 10 #[false, false, false, false, false, false, false, false, false, false] (by as_aux_lemma => kernel_rfl) rfl rfl ?_
      have HF := hide ((Below.refl w15.heap.size w15).drew)
      generalize w15.drew = w15d at *
      refine Calm.take (i := 0) (v := ?_) (a' := ?_) (l' := #[true, false, false, false, false, false, false, false, false, false]) (d := some 114) rfl (by as_aux_lemma => kernel_rfl) (by as_aux_lemma => kernel_rfl) (by as_aux_lemma => kernel_rfl) (by as_aux_lemma => kernel_rfl) (fun _ _ _ h => h) HF.out rfl ?_ rfl rfl ?_ ?_
      rotate_left
      · intro w' hF; clear hF; go_simp; try rfl
      rotate_left
      · simp only [Act.put]; exact rfl
      refine Calm.take (i := 1) (v := ?_) (a' := ?_) (l' := #[true, true, false, false, false, false, false, false, false, false]) (d := some 115) rfl (by as_aux_lemma => kernel_rfl) (by as_aux_lemma => kernel_rfl) (by as_aux_lemma => kernel_rfl) (by as_aux_lemma => kernel_rfl) (fun _ _ _ h => h) HF.out rfl ?_ rfl rfl ?_ ?_
      rotate_left
      · intro w' hF; have f0 := (VA.out.step hF).cell0; have f1 := (VA.out.step hF).cell1; clear hF; go_simp; try rfl
      rotate_left
      · simp only [Act.put]; exact rfl
      refine Calm.take (i := 3) (v := ?_) (a' := ?_) (l' := #[true, true, false, true, false, false, false, false, false, false]) (d := some 117) rfl (by as_aux_lemma => kernel_rfl) (by as_aux_lemma => kernel_rfl) (by as_aux_lemma => kernel_rfl) (by as_aux_lemma => kernel_rfl) (fun _ _ _ h => h) HF.out rfl ?_ rfl rfl ?_ ?_
      rotate_left
      · intro w' hF; have f0 := (VA.out.step hF).cell0; have f1 := (VA.out.step hF).cell1; clear hF; go_simp; try rfl
      rotate_left
      · simp only [Act.put]; exact rfl
      refine Calm.one (i := 2) (l' := #[true, true, true, true, false, false, false, false, false, false]) (by as_aux_lemma => kernel_rfl) rfl rfl rfl fun K hK => ?_
      go_simp
      refine (rscale_any _ _ xs m 300 _ (XA.out.below HF.out) (IA.out.below HF.out) (by have := LX.out; omega) SX.out SM.out (by decide)).mono ?_
      rintro e y1 ⟨bs, rfl, _, hr, hb⟩
      replace hr : IRow _ bs (scL xs m) := hr
      have HF' := hide (HF.out.trans ((hb).mono HF.out.size))
      have RS := hide (hr)
      refine hK _ _ (fun _ => HF'.out) ?_
      clear hK K HF hb hr
      have HF := hide HF'.out
      clear HF'
      refine Calm.one (i := 4) (l' := #[true, true, true, true, true, false, false, false, false, false]) (by as_aux_lemma => kernel_rfl) rfl rfl rfl fun K hK => ?_
      go_simp
      refine (roverL_any _ _ (scL xs m) m 600 _ (irow_intsS RS.out (scL_len xs m) (by have := LX.out; unfold maxLen; omega)) (IA.out.below HF.out) MN.out (by rw [scL_len]; have := LX.out; omega) (SX.out.scale SM.out) (SM.out.mono (by decide)) (by decide)).mono ?_
      rintro e y2 hov
      rcases hov with ⟨_, bk, rfl, hge, hr, hb⟩ | ⟨h20, _, _⟩
      rotate_left
      · exact absurd h20 (by rw [over_scale xs m]; decide)
      rw [over_back xs MN.out] at hr
      have GK := hide (Nat.le_trans HF.out.size hge)
      clear RS
      have HF' := hide (HF.out.trans ((hb).mono HF.out.size))
      have RK := hide (hr)
      refine hK _ _ (fun _ => HF'.out) ?_
      clear hK K HF hb hr hge
      have HF := hide HF'.out
      clear HF'
      refine Calm.take (i := 5) (v := ?_) (a' := ?_) (l' := #[true, true, true, true, true, true, false, false, false, false]) (d := some 113) rfl (by as_aux_lemma => kernel_rfl) (by as_aux_lemma => kernel_rfl) (by as_aux_lemma => kernel_rfl) (by as_aux_lemma => kernel_rfl) (fun _ _ _ h => h) HF.out rfl ?_ rfl rfl ?_ ?_
      rotate_left
      · intro w' hF; clear hF; go_simp; try rfl
      rotate_left
      · simp only [Act.put]; exact rfl
      refine Calm.take (i := 6) (v := ?_) (a' := ?_) (l' := #[true, true, true, true, true, true, true, false, false, false]) (d := some 119) rfl (by as_aux_lemma => kernel_rfl) (by as_aux_lemma => kernel_rfl) (by as_aux_lemma => kernel_rfl) (by as_aux_lemma => kernel_rfl) (fun _ _ _ h => h) HF.out rfl ?_ rfl rfl ?_ ?_
      rotate_left
      · intro w' hF; clear hF; go_simp; try rfl
      rotate_left
      · simp only [Act.put]; exact rfl
      refine Calm.take (i := 7) (v := ?_) (a' := ?_) (l' := #[true, true, true, true, true, true, true, true, false, false]) (d := some 120) rfl (by as_aux_lemma => kernel_rfl) (by as_aux_lemma => kernel_rfl) (by as_aux_lemma => kernel_rfl) (by as_aux_lemma => kernel_rfl) (fun _ _ _ h => h) HF.out rfl ?_ rfl rfl ?_ ?_
      rotate_left
      · intro w' hF; clear hF; go_simp; try rfl
      rotate_left
      · simp only [Act.put]; exact rfl
      refine Calm.take (i := 8) (v := ?_) (a' := ?_) (l' := #[true, true, true, true, true, true, true, true, true, false]) (d := some 18) rfl (by as_aux_lemma => kernel_rfl) (by as_aux_lemma => kernel_rfl) (by as_aux_lemma => kernel_rfl) (by as_aux_lemma => kernel_rfl) (fun _ _ _ h => h) HF.out rfl ?_ rfl rfl ?_ ?_
      rotate_left
      · intro w' hF; clear hF; go_simp; try rfl
      rotate_left
      · simp only [Act.put]; exact rfl
      refine Calm.take (i := 9) (v := ?_) (a' := ?_) (l' := #[true, true, true, true, true, true, true, true, true, true]) (d := some 19) rfl (by as_aux_lemma => kernel_rfl) (by as_aux_lemma => kernel_rfl) (by as_aux_lemma => kernel_rfl) (by as_aux_lemma => kernel_rfl) (fun _ _ _ h => h) HF.out rfl ?_ rfl rfl ?_ ?_
      rotate_left
      · intro w' hF; clear hF; go_simp; try rfl
      rotate_left
      · simp only [Act.put]; exact rfl
      refine Calm.done (by as_aux_lemma => kernel_rfl) ?_
      have LK := hide (Nat.lt_of_lt_of_le RL.out.lt GK.out)
      replace HB := hide (HB.out.trans ((HF.out).mono HB.out.size))
      replace XA := hide (XA.out.below (HF.out))
      replace PA := hide (PA.out.below (HF.out))
      replace VA := hide (VA.out.step (HF.out))
      replace VM := hide (VM.out.step (HF.out))
      replace IA := hide (IA.out.below (HF.out))
      replace IM := hide (IM.out.below (HF.out))
      replace W5 := hide (W5.out.trans ((HF.out).mono W5.out.size))
      replace RL := hide (RL.out.step (HF.out))
      replace RQ := hide (RQ.out.below (HF.out))
      clear HF GK
      rw [scL_len]
      simp only [List.setIfInBounds_toArray, List.set_cons_succ, List.set_cons_zero]
      go_wp2_with fail
      refine (isrow_yes _ _ (qoL xs m) _ (irow_intsS RL.out (qoL_len xs m) (by have := LX.out; unfold maxLen; omega)) RQ.out (fun i => SzI.len (qoL_sz SX.out i) (by decide))).mono ?_
      rintro e w17 ⟨rfl, hb⟩
      replace HB := hide (HB.out.trans ((hb).mono HB.out.size))
      replace XA := hide (XA.out.below (hb))
      replace PA := hide (PA.out.below (hb))
      replace VA := hide (VA.out.step (hb))
      replace VM := hide (VM.out.step (hb))
      replace IA := hide (IA.out.below (hb))
      replace IM := hide (IM.out.below (hb))
      replace W5 := hide (W5.out.trans ((hb).mono W5.out.size))
      replace RL := hide (RL.out.step (hb))
      replace RQ := hide (RQ.out.below (hb))
      replace RK := hide (RK.out.step (hb))
      clear hb RQ
      go_wp2_with fail
      refine (own_row bl xs.length (qoL xs m) _ _ xs w5 _ (qoL_len xs m) W5.out GL.out RL.out (by have := LX.out; omega) X5.out P5.out (fun i => SzI.len (SX.out i) (by decide))).mono ?_
      rintro e w18 ⟨rfl, hkb, hW⟩
      replace HB := hide (below_kept HB.out hkb (Nat.le_trans LW5.out GL.out) HB.out.size)
      replace RK := hide (RK.out.kept hkb (Nat.ne_of_gt LK.out))
      have PA2 := hide (P5.out.below hW)
      clear hkb hW RL XA PA VA VM IA IM W5
      go_wp2_with fail
      refine (isrow_yes _ _ xs _ (irow_intsS RK.out rfl (by have := LX.out; unfold maxLen; omega)) PA2.out (fun i => SzI.len (SX.out i) (by decide))).mono ?_
      rintro e w19 ⟨rfl, hb⟩
      replace HB := hide (HB.out.trans ((hb).mono HB.out.size))
      replace RK := hide (RK.out.step (hb))
      replace PA2 := hide (PA2.out.below (hb))
      clear hb
      go_wp2
      go_ret
      exact ⟨rfl, HB.out⟩
    · skip
      have E20 := hide e20
      clear e20
      have hb := hb1
      clear hb1
      replace HB := hide (HB.out.trans ((hb).mono HB.out.size))
      replace XA := hide (XA.out.below (hb))
      replace PA := hide (PA.out.below (hb))
      replace VA := hide (VA.out.step (hb))
      replace VM := hide (VM.out.step (hb))
      replace IA := hide (IA.out.below (hb))
      replace IM := hide (IM.out.below (hb))
      clear hb
      go_wp2_with fail
      refine (r4content_any _ xs 300 _ PA.out SX.out (by decide)).mono ?_
      rintro e w8 ⟨v, rfl, i, hb⟩
      obtain ⟨s1, m1, l1, c1, rfl, i⟩ := i.cellsW
      replace HB := hide (HB.out.trans ((hb).mono HB.out.size))
      replace XA := hide (XA.out.below (hb))
      replace PA := hide (PA.out.below (hb))
      replace VA := hide (VA.out.step (hb))
      replace VM := hide (VM.out.step (hb))
      replace IA := hide (IA.out.below (hb))
      replace IM := hide (IM.out.below (hb))
      have I11 := hide i
      clear i hb
      go_upto_region 9 with fail
      have al := below_alloc w8 (.cells #[.bool s1, .slice m1 l1 c1] 39)
      replace HB := hide (HB.out.trans ((al).mono HB.out.size))
      replace XA := hide (XA.out.below (al))
      replace PA := hide (PA.out.below (al))
      replace VA := hide (VA.out.step (al))
      replace VM := hide (VM.out.step (al))
      replace IA := hide (IA.out.below (al))
      replace IM := hide (IM.out.below (al))
      replace I11 := hide (I11.out.below (al))
      clear al
      have V11 := hide (Box2.new w8 39 (.bool s1) (.slice m1 l1 c1))
      generalize w8.alloc (.cells #[.bool s1, .slice m1 l1 c1] 39) = w9 at *
      generalize w8.heap.size = g11 at *
      go_wp2_with fail
      refine (r4prim_any _ xs 300 _ PA.out (by have := LX.out; omega) SX.out (by decide)).mono ?_
      rintro e w10 ⟨vW, v, rfl, hr, i, hb⟩
      obtain ⟨s2, m2, l2, c2, rfl, i⟩ := i.cellsW
      replace HB := hide (HB.out.trans ((hb).mono HB.out.size))
      replace XA := hide (XA.out.below (hb))
      replace PA := hide (PA.out.below (hb))
      replace VA := hide (VA.out.step (hb))
      replace VM := hide (VM.out.step (hb))
      replace IA := hide (IA.out.below (hb))
      replace IM := hide (IM.out.below (hb))
      replace I11 := hide (I11.out.below (hb))
      replace V11 := hide (V11.out.step (hb))
      have RW := hide hr
      have I13 := hide i
      clear hr i hb
      go_upto_region 10 with fail
      have al := below_alloc w10 (.cells #[.bool s2, .slice m2 l2 c2] 39)
      replace HB := hide (HB.out.trans ((al).mono HB.out.size))
      replace XA := hide (XA.out.below (al))
      replace PA := hide (PA.out.below (al))
      replace VA := hide (VA.out.step (al))
      replace VM := hide (VM.out.step (al))
      replace IA := hide (IA.out.below (al))
      replace IM := hide (IM.out.below (al))
      replace I11 := hide (I11.out.below (al))
      replace V11 := hide (V11.out.step (al))
      replace RW := hide (RW.out.below (al))
      replace I13 := hide (I13.out.below (al))
      clear al
      have V13 := hide (Box2.new w10 39 (.bool s2) (.slice m2 l2 c2))
      generalize w10.alloc (.cells #[.bool s2, .slice m2 l2 c2] 39) = wP at *
      generalize w10.heap.size = g13 at *
      go_wp2_with fail
      refine (prim_any _ xs 300 _ XA.out (by have := LX.out; omega) SX.out (by decide)).mono ?_
      rintro e w11 ⟨bu, v, rfl, hge, hr, i, hb⟩
      obtain ⟨s3, m3, l3, c3, rfl, i⟩ := i.cells
      have HP := hide hb
      have RU := hide hr
      have GU := hide hge
      have I15 := hide i
      clear hr hge i hb
      go_upto_region 11 with fail
      have al := below_alloc w11 (.cells #[.bool s3, .slice m3 l3 c3] 36)
      replace HP := hide (HP.out.trans (al.mono HP.out.size))
      have LU := hide RU.out.lt
      replace RU := hide (RU.out.step al)
      replace I15 := hide (I15.out.below al)
      clear al
      have V15 := hide (Box.new w11 (.bool s3) (.slice m3 l3 c3))
      generalize w11.alloc (.cells #[.bool s3, .slice m3 l3 c3] 36) = w12 at *
      generalize w11.heap.size = g15 at *
      replace RU := hide RU.out.drew
      refine wp_calm (fun w' => Below wP.heap.size wP w' ∧ Box w' g15 (.bool s3) (.slice m3 l3 c3) ∧ IntAt w' (.agg #[.bool s3, .slice m3 l3 c3]) (contS xs)) (fun _ => true) 28 #[false, false, false, false, false, false, false, false, false, false, false, false, false, false, false, false, false, false, false, false, false, false, false, false, false, false, false, false] (by as_aux_lemma => kernel_rfl) rfl rfl ?_
      have HF := hide (And.intro (HP.out.drew) (And.intro (V15.out.drew) (I15.out.drew)))
      generalize w12.drew = w12d at *
      refine Calm.take (i := 0) (v := ?_) (a' := ?_) (l' := #[true, false, false, false, false, false, false, false, false, false, false, false, false, false, false, false, false, false, false, false, false, false, false, false, false, false, false, false]) (d := some 60) rfl (by as_aux_lemma => kernel_rfl) (by as_aux_lemma => kernel_rfl) (by as_aux_lemma => kernel_rfl) (by as_aux_lemma => kernel_rfl) (fun _ _ _ h => h) HF.out rfl ?_ rfl rfl ?_ ?_
      rotate_left
      · intro w' hF; clear hF; go_simp; try rfl
      rotate_left
      · simp only [Act.put]; exact rfl
      refine Calm.take (i := 2) (v := ?_) (a' := ?_) (l' := #[true, false, true, false, false, false, false, false, false, false, false, false, false, false, false, false, false, false, false, false, false, false, false, false, false, false, false, false]) (d := some 62) rfl (by as_aux_lemma => kernel_rfl) (by as_aux_lemma => kernel_rfl) (by as_aux_lemma => kernel_rfl) (by as_aux_lemma => kernel_rfl) (fun _ _ _ h => h) HF.out rfl ?_ rfl rfl ?_ ?_
      rotate_left
      · intro w' hF; have f0 := (V11.out.step hF.1).cell0; have f1 := (V11.out.step hF.1).cell1; have f2 := (V13.out.step hF.1).cell0; have f3 := (V13.out.step hF.1).cell1; have f4 := hF.2.1.cell0; have f5 := hF.2.1.cell1; clear hF; go_simp; try rfl
      rotate_left
      · simp only [Act.put]; exact rfl
      refine Calm.one (i := 1) (l' := #[true, true, true, false, false, false, false, false, false, false, false, false, false, false, false, false, false, false, false, false, false, false, false, false, false, false, false, false]) (by as_aux_lemma => kernel_rfl) rfl rfl rfl fun K hK => ?_
      go_simp
      refine (content_any _ xs 300 _ (XA.out.below HF.out.1) SX.out (by decide)).mono ?_
      rintro e z0 ⟨v, rfl, i, hb⟩
      replace RU := hide (RU.out.step (hb))
      have HF' := hide (And.intro (HF.out.1.trans ((hb).mono HF.out.1.size)) (And.intro (HF.out.2.1.step (hb)) (HF.out.2.2.below (hb))))
      have T1 := hide (i)
      refine hK _ _ (fun _ => HF'.out) ?_
      clear hK K HF hb i
      have HF := hide HF'.out
      clear HF'
      refine Calm.one (i := 3) (l' := #[true, true, true, true, false, false, false, false, false, false, false, false, false, false, false, false, false, false, false, false, false, false, false, false, false, false, false, false]) (by as_aux_lemma => kernel_rfl) rfl rfl rfl fun K hK => ?_
      go_simp
      refine (one_yes _ _ (gcdTo xs xs.length : Int) _ T1.out (I11.out.below HF.out.1) (SzI.len (gcdTo_sz SX.out xs.length) (by decide))).mono ?_
      rintro e z1 ⟨rfl, hb⟩
      replace RU := hide (RU.out.step (hb))
      clear T1
      have HF' := hide (And.intro (HF.out.1.trans ((hb).mono HF.out.1.size)) (And.intro (HF.out.2.1.step (hb)) (HF.out.2.2.below (hb))))
      refine hK _ _ (fun _ => HF'.out) ?_
      clear hK K HF hb
      have HF := hide HF'.out
      clear HF'
      refine Calm.take (i := 4) (v := ?_) (a' := ?_) (l' := #[true, true, true, true, true, false, false, false, false, false, false, false, false, false, false, false, false, false, false, false, false, false, false, false, false, false, false, false]) (d := some 64) rfl (by as_aux_lemma => kernel_rfl) (by as_aux_lemma => kernel_rfl) (by as_aux_lemma => kernel_rfl) (by as_aux_lemma => kernel_rfl) (fun _ _ _ h => h) HF.out rfl ?_ rfl rfl ?_ ?_
      rotate_left
      · intro w' hF; clear hF; go_simp; try rfl
      rotate_left
      · simp only [Act.put]; exact rfl
      refine Calm.take (i := 5) (v := ?_) (a' := ?_) (l' := #[true, true, true, true, true, true, false, false, false, false, false, false, false, false, false, false, false, false, false, false, false, false, false, false, false, false, false, false]) (d := some 65) rfl (by as_aux_lemma => kernel_rfl) (by as_aux_lemma => kernel_rfl) (by as_aux_lemma => kernel_rfl) (by as_aux_lemma => kernel_rfl) (fun _ _ _ h => h) HF.out rfl ?_ rfl rfl ?_ ?_
      rotate_left
      · intro w' hF; clear hF; go_simp; try rfl
      rotate_left
      · simp only [Act.put]; exact rfl
      refine Calm.take (i := 6) (v := ?_) (a' := ?_) (l' := #[true, true, true, true, true, true, true, false, false, false, false, false, false, false, false, false, false, false, false, false, false, false, false, false, false, false, false, false]) (d := some 66) rfl (by as_aux_lemma => kernel_rfl) (by as_aux_lemma => kernel_rfl) (by as_aux_lemma => kernel_rfl) (by as_aux_lemma => kernel_rfl) (fun _ _ _ h => h) HF.out (by as_aux_lemma => kernel_rfl) ?_ rfl rfl ?_ ?_
      rotate_left
      · intro w' hF; clear hF; go_simp; try rfl
      rotate_left
      · simp only [Act.put]; exact rfl
      refine Calm.take (i := 7) (v := ?_) (a' := ?_) (l' := #[true, true, true, true, true, true, true, true, false, false, false, false, false, false, false, false, false, false, false, false, false, false, false, false, false, false, false, false]) (d := some 67) rfl (by as_aux_lemma => kernel_rfl) (by as_aux_lemma => kernel_rfl) (by as_aux_lemma => kernel_rfl) (by as_aux_lemma => kernel_rfl) (fun _ _ _ h => h) HF.out (by as_aux_lemma => kernel_rfl) ?_ rfl rfl ?_ ?_
      rotate_left
      · intro w' hF; clear hF; go_simp; try rfl
      rotate_left
      · simp only [Act.put]; exact rfl
      refine Calm.one (i := 8) (l' := #[true, true, true, true, true, true, true, true, true, false, false, false, false, false, false, false, false, false, false, false, false, false, false, false, false, false, false, false]) (by as_aux_lemma => kernel_rfl) rfl (by as_aux_lemma => kernel_rfl) rfl fun K hK => ?_
      go_simp
      refine (isrow_yes _ _ (primL xs) _ (irow_intsS RU.out (primL_len xs) (by have := LX.out; unfold maxLen; omega)) (RW.out.below HF.out.1) (fun i => SzI.len (prim_sz SX.out i) (by decide))).mono ?_
      rintro e z2 ⟨rfl, hb⟩
      replace RU := hide (RU.out.step (hb))
      have HF' := hide (And.intro (HF.out.1.trans ((hb).mono HF.out.1.size)) (And.intro (HF.out.2.1.step (hb)) (HF.out.2.2.below (hb))))
      refine hK _ _ (fun _ => HF'.out) ?_
      clear hK K HF hb
      have HF := hide HF'.out
      clear HF'
      refine Calm.take (i := 9) (v := ?_) (a' := ?_) (l' := #[true, true, true, true, true, true, true, true, true, true, false, false, false, false, false, false, false, false, false, false, false, false, false, false, false, false, false, false]) (d := some 69) rfl (by as_aux_lemma => kernel_rfl) (by as_aux_lemma => kernel_rfl) (by as_aux_lemma => kernel_rfl) (by as_aux_lemma => kernel_rfl) (fun _ _ _ h => h) HF.out (by as_aux_lemma => kernel_rfl) ?_ rfl rfl ?_ ?_
      rotate_left
      · intro w' hF; clear hF; go_simp; try rfl
      rotate_left
      · simp only [Act.put]; exact rfl
      refine Calm.take (i := 10) (v := ?_) (a' := ?_) (l' := #[true, true, true, true, true, true, true, true, true, true, true, false, false, false, false, false, false, false, false, false, false, false, false, false, false, false, false, false]) (d := some 70) rfl (by as_aux_lemma => kernel_rfl) (by as_aux_lemma => kernel_rfl) (by as_aux_lemma => kernel_rfl) (by as_aux_lemma => kernel_rfl) (fun _ _ _ h => h) HF.out rfl ?_ rfl rfl ?_ ?_
      rotate_left
      · intro w' hF; clear hF; go_simp; try rfl
      rotate_left
      · simp only [Act.put]; exact rfl
      refine Calm.take (i := 11) (v := ?_) (a' := ?_) (l' := #[true, true, true, true, true, true, true, true, true, true, true, true, false, false, false, false, false, false, false, false, false, false, false, false, false, false, false, false]) (d := some 71) rfl (by as_aux_lemma => kernel_rfl) (by as_aux_lemma => kernel_rfl) (by as_aux_lemma => kernel_rfl) (by as_aux_lemma => kernel_rfl) (fun _ _ _ h => h) HF.out rfl ?_ rfl rfl ?_ ?_
      rotate_left
      · intro w' hF; clear hF; go_simp; try rfl
      rotate_left
      · simp only [Act.put]; exact rfl
      refine Calm.take (i := 12) (v := ?_) (a' := ?_) (l' := #[true, true, true, true, true, true, true, true, true, true, true, true, true, false, false, false, false, false, false, false, false, false, false, false, false, false, false, false]) (d := some 72) rfl (by as_aux_lemma => kernel_rfl) (by as_aux_lemma => kernel_rfl) (by as_aux_lemma => kernel_rfl) (by as_aux_lemma => kernel_rfl) (fun _ _ _ h => h) HF.out (by as_aux_lemma => kernel_rfl) ?_ rfl rfl ?_ ?_
      rotate_left
      · intro w' hF; have f0 := (V11.out.step hF.1).cell0; have f1 := (V11.out.step hF.1).cell1; have f2 := (V13.out.step hF.1).cell0; have f3 := (V13.out.step hF.1).cell1; have f4 := hF.2.1.cell0; have f5 := hF.2.1.cell1; clear hF; go_simp; try rfl
      rotate_left
      · simp only [Act.put]; exact rfl
      refine Calm.take (i := 13) (v := ?_) (a' := ?_) (l' := #[true, true, true, true, true, true, true, true, true, true, true, true, true, true, false, false, false, false, false, false, false, false, false, false, false, false, false, false]) (d := some 73) rfl (by as_aux_lemma => kernel_rfl) (by as_aux_lemma => kernel_rfl) (by as_aux_lemma => kernel_rfl) (by as_aux_lemma => kernel_rfl) (fun _ _ _ h => h) HF.out (by as_aux_lemma => kernel_rfl) ?_ rfl rfl ?_ ?_
      rotate_left
      · intro w' hF; have f0 := (V11.out.step hF.1).cell0; have f1 := (V11.out.step hF.1).cell1; have f2 := (V13.out.step hF.1).cell0; have f3 := (V13.out.step hF.1).cell1; have f4 := hF.2.1.cell0; have f5 := hF.2.1.cell1; clear hF; go_simp; try rfl
      rotate_left
      · simp only [Act.put]; exact rfl
      refine Calm.one (i := 14) (l' := #[true, true, true, true, true, true, true, true, true, true, true, true, true, true, true, false, false, false, false, false, false, false, false, false, false, false, false, false]) (by as_aux_lemma => kernel_rfl) rfl (by as_aux_lemma => kernel_rfl) rfl fun K hK => ?_
      go_simp
      refine (one_yes _ _ (contS xs) _ HF.out.2.2 (I13.out.below HF.out.1) (SzI.len (contS_sz SX.out) (by decide))).mono ?_
      rintro e z3 ⟨rfl, hb⟩
      replace RU := hide (RU.out.step (hb))
      have HF' := hide (And.intro (HF.out.1.trans ((hb).mono HF.out.1.size)) (And.intro (HF.out.2.1.step (hb)) (HF.out.2.2.below (hb))))
      refine hK _ _ (fun _ => HF'.out) ?_
      clear hK K HF hb
      have HF := hide HF'.out
      clear HF'
      refine Calm.take (i := 15) (v := ?_) (a' := ?_) (l' := #[true, true, true, true, true, true, true, true, true, true, true, true, true, true, true, true, false, false, false, false, false, false, false, false, false, false, false, false]) (d := some 75) rfl (by as_aux_lemma => kernel_rfl) (by as_aux_lemma => kernel_rfl) (by as_aux_lemma => kernel_rfl) (by as_aux_lemma => kernel_rfl) (fun _ _ _ h => h) HF.out (by as_aux_lemma => kernel_rfl) ?_ rfl rfl ?_ ?_
      rotate_left
      · intro w' hF; clear hF; go_simp; try rfl
      rotate_left
      · simp only [Act.put]; exact rfl
      refine Calm.take (i := 16) (v := ?_) (a' := ?_) (l' := #[true, true, true, true, true, true, true, true, true, true, true, true, true, true, true, true, true, false, false, false, false, false, false, false, false, false, false, false]) (d := some 76) rfl (by as_aux_lemma => kernel_rfl) (by as_aux_lemma => kernel_rfl) (by as_aux_lemma => kernel_rfl) (by as_aux_lemma => kernel_rfl) (fun _ _ _ h => h) HF.out rfl ?_ rfl rfl ?_ ?_
      rotate_left
      · intro w' hF; clear hF; go_simp; try rfl
      rotate_left
      · simp only [Act.put]; exact rfl
      refine Calm.take (i := 17) (v := ?_) (a' := ?_) (l' := #[true, true, true, true, true, true, true, true, true, true, true, true, true, true, true, true, true, true, false, false, false, false, false, false, false, false, false, false]) (d := some 77) rfl (by as_aux_lemma => kernel_rfl) (by as_aux_lemma => kernel_rfl) (by as_aux_lemma => kernel_rfl) (by as_aux_lemma => kernel_rfl) (fun _ _ _ h => h) HF.out rfl ?_ rfl rfl ?_ ?_
      rotate_left
      · intro w' hF; clear hF; go_simp; try rfl
      rotate_left
      · simp only [Act.put]; exact rfl
      refine Calm.take (i := 18) (v := ?_) (a' := ?_) (l' := #[true, true, true, true, true, true, true, true, true, true, true, true, true, true, true, true, true, true, true, false, false, false, false, false, false, false, false, false]) (d := some 78) rfl (by as_aux_lemma => kernel_rfl) (by as_aux_lemma => kernel_rfl) (by as_aux_lemma => kernel_rfl) (by as_aux_lemma => kernel_rfl) (fun _ _ _ h => h) HF.out (by as_aux_lemma => kernel_rfl) ?_ rfl rfl ?_ ?_
      rotate_left
      · intro w' hF; clear hF; go_simp; try rfl
      rotate_left
      · simp only [Act.put]; exact rfl
      refine Calm.take (i := 19) (v := ?_) (a' := ?_) (l' := #[true, true, true, true, true, true, true, true, true, true, true, true, true, true, true, true, true, true, true, true, false, false, false, false, false, false, false, false]) (d := some 79) rfl (by as_aux_lemma => kernel_rfl) (by as_aux_lemma => kernel_rfl) (by as_aux_lemma => kernel_rfl) (by as_aux_lemma => kernel_rfl) (fun _ _ _ h => h) HF.out (by as_aux_lemma => kernel_rfl) ?_ rfl rfl ?_ ?_
      rotate_left
      · intro w' hF; clear hF; go_simp; try rfl
      rotate_left
      · simp only [Act.put]; exact rfl
      refine Calm.take (i := 20) (v := ?_) (a' := ?_) (l' := #[true, true, true, true, true, true, true, true, true, true, true, true, true, true, true, true, true, true, true, true, true, false, false, false, false, false, false, false]) (d := some 80) rfl (by as_aux_lemma => kernel_rfl) (by as_aux_lemma => kernel_rfl) (by as_aux_lemma => kernel_rfl) (by as_aux_lemma => kernel_rfl) (fun _ _ _ h => h) HF.out (by as_aux_lemma => kernel_rfl) ?_ rfl rfl ?_ ?_
      rotate_left
      · intro w' hF; clear hF; go_simp; try rfl
      rotate_left
      · simp only [Act.put]; exact rfl
      refine Calm.one (i := 21) (l' := #[true, true, true, true, true, true, true, true, true, true, true, true, true, true, true, true, true, true, true, true, true, true, false, false, false, false, false, false]) (by as_aux_lemma => kernel_rfl) rfl (by as_aux_lemma => kernel_rfl) rfl fun K hK => ?_
      go_simp
      refine (own_row bu xs.length (primL xs) _ _ xs wP _ (primL_len xs) HF.out.1 GU.out RU.out (by have := LX.out; omega) XA.out PA.out (fun i => SzI.len (SX.out i) (by decide))).mono ?_
      rintro e z4 ⟨rfl, hkb, hW⟩
      have hb := True.intro
      clear RU
      have HF' := hide (And.intro (hW) (And.intro (Box.kept HF.out.2.1 hkb (Nat.ne_of_gt LU.out)) (HF.out.2.2.keep hkb.limbs)))
      refine hK _ _ (fun _ => HF'.out) ?_
      clear hK K HF hb hkb hW
      have HF := hide HF'.out
      clear HF'
      refine Calm.take (i := 22) (v := ?_) (a' := ?_) (l' := #[true, true, true, true, true, true, true, true, true, true, true, true, true, true, true, true, true, true, true, true, true, true, true, false, false, false, false, false]) (d := some 82) rfl (by as_aux_lemma => kernel_rfl) (by as_aux_lemma => kernel_rfl) (by as_aux_lemma => kernel_rfl) (by as_aux_lemma => kernel_rfl) (fun _ _ _ h => h) HF.out (by as_aux_lemma => kernel_rfl) ?_ rfl rfl ?_ ?_
      rotate_left
      · intro w' hF; clear hF; go_simp; try rfl
      rotate_left
      · simp only [Act.put]; exact rfl
      refine Calm.take (i := 23) (v := ?_) (a' := ?_) (l' := #[true, true, true, true, true, true, true, true, true, true, true, true, true, true, true, true, true, true, true, true, true, true, true, true, false, false, false, false]) (d := some 83) rfl (by as_aux_lemma => kernel_rfl) (by as_aux_lemma => kernel_rfl) (by as_aux_lemma => kernel_rfl) (by as_aux_lemma => kernel_rfl) (fun _ _ _ h => h) HF.out rfl ?_ rfl rfl ?_ ?_
      rotate_left
      · intro w' hF; clear hF; go_simp; try rfl
      rotate_left
      · simp only [Act.put]; exact rfl
      refine Calm.take (i := 24) (v := ?_) (a' := ?_) (l' := #[true, true, true, true, true, true, true, true, true, true, true, true, true, true, true, true, true, true, true, true, true, true, true, true, true, false, false, false]) (d := some 84) rfl (by as_aux_lemma => kernel_rfl) (by as_aux_lemma => kernel_rfl) (by as_aux_lemma => kernel_rfl) (by as_aux_lemma => kernel_rfl) (fun _ _ _ h => h) HF.out rfl ?_ rfl rfl ?_ ?_
      rotate_left
      · intro w' hF; clear hF; go_simp; try rfl
      rotate_left
      · simp only [Act.put]; exact rfl
      refine Calm.one (i := 25) (l' := #[true, true, true, true, true, true, true, true, true, true, true, true, true, true, true, true, true, true, true, true, true, true, true, true, true, true, false, false]) (by as_aux_lemma => kernel_rfl) rfl (by as_aux_lemma => kernel_rfl) rfl fun K hK => ?_
      go_simp
      refine (rlive_any _).mono ?_
      rintro e z5 ⟨rfl, hb⟩
      have HF' := hide (And.intro (HF.out.1.trans ((hb).mono HF.out.1.size)) (And.intro (HF.out.2.1.step (hb)) (HF.out.2.2.below (hb))))
      refine hK _ _ (fun _ => HF'.out) ?_
      clear hK K HF hb
      have HF := hide HF'.out
      clear HF'
      refine Calm.take (i := 26) (v := ?_) (a' := ?_) (l' := #[true, true, true, true, true, true, true, true, true, true, true, true, true, true, true, true, true, true, true, true, true, true, true, true, true, true, true, false]) (d := some 86) rfl (by as_aux_lemma => kernel_rfl) (by as_aux_lemma => kernel_rfl) (by as_aux_lemma => kernel_rfl) (by as_aux_lemma => kernel_rfl) (fun _ _ _ h => h) HF.out (by as_aux_lemma => kernel_rfl) ?_ rfl rfl ?_ ?_
      rotate_left
      · intro w' hF; clear hF; go_simp; try rfl
      rotate_left
      · simp only [Act.put]; exact rfl
      refine Calm.take (i := 27) (v := ?_) (a' := ?_) (l' := #[true, true, true, true, true, true, true, true, true, true, true, true, true, true, true, true, true, true, true, true, true, true, true, true, true, true, true, true]) (d := some 87) rfl (by as_aux_lemma => kernel_rfl) (by as_aux_lemma => kernel_rfl) (by as_aux_lemma => kernel_rfl) (by as_aux_lemma => kernel_rfl) (fun _ _ _ h => h) HF.out rfl ?_ rfl rfl ?_ ?_
      rotate_left
      · intro w' hF; clear hF; go_simp; try rfl
      rotate_left
      · simp only [Act.put]; exact rfl
      refine Calm.done (by as_aux_lemma => kernel_rfl) ?_
      replace HB := hide (HB.out.trans ((HF.out.1).mono HB.out.size))
      replace XA := hide (XA.out.below (HF.out.1))
      replace PA := hide (PA.out.below (HF.out.1))
      replace VA := hide (VA.out.step (HF.out.1))
      replace VM := hide (VM.out.step (HF.out.1))
      replace IA := hide (IA.out.below (HF.out.1))
      replace IM := hide (IM.out.below (HF.out.1))
      replace I11 := hide (I11.out.below (HF.out.1))
      replace V11 := hide (V11.out.step (HF.out.1))
      replace RW := hide (RW.out.below (HF.out.1))
      replace I13 := hide (I13.out.below (HF.out.1))
      replace V13 := hide (V13.out.step (HF.out.1))
      clear HF HP GU LU V15 I15 V11 V13 I11 I13 RW
      simp only [List.setIfInBounds_toArray, List.set_cons_succ, List.set_cons_zero]
      have c0 := VM.out.cell0
      have c1 := VM.out.cell1
      go_wp2_with fail
      refine (rsign_any _ m _ IM.out).mono ?_
      rintro e w14 ⟨rfl, hb⟩
      clear c0 c1
      replace HB := hide (HB.out.trans ((hb).mono HB.out.size))
      replace XA := hide (XA.out.below (hb))
      replace PA := hide (PA.out.below (hb))
      replace VA := hide (VA.out.step (hb))
      replace VM := hide (VM.out.step (hb))
      replace IA := hide (IA.out.below (hb))
      replace IM := hide (IM.out.below (hb))
      clear hb
      have hsg : (sgnI m == 0) = false := sgnI_ne0 MN.out
      have c0 := VM.out.cell0
      have c1 := VM.out.cell1
      go_wp2_with fail
      refine (r4over_any _ _ xs m 300 _ PA.out IM.out MN.out (by have := LX.out; omega) SX.out SM.out (by decide)).mono ?_
      rintro e w15 hov
      clear c0 c1 hsg
      rcases hov with ⟨h0, _⟩ | ⟨_, rfl, hb⟩
      · exact absurd h0 (by rw [E20.out]; decide)
      replace HB := hide (HB.out.trans ((hb).mono HB.out.size))
      replace XA := hide (XA.out.below (hb))
      replace PA := hide (PA.out.below (hb))
      replace VA := hide (VA.out.step (hb))
      replace VM := hide (VM.out.step (hb))
      replace IA := hide (IA.out.below (hb))
      replace IM := hide (IM.out.below (hb))
      clear hb
      go_wp2
      go_ret
      exact ⟨rfl, HB.out⟩
end Go.Proofs.Ytejkjdjobeabfaa
