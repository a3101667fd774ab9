/- swagelaw04.RowModule answers true at all rows and numbers, and turns nothing that was there. -/
import Derived.Test.YtmeckembnglhiaaWMod
import Derived.Test.YtmeckembnglhiaaWLive
import Derived.Test.YtmeckembnglhiaaWOf
import Derived.RegionTactic
namespace Go.Proofs.Ytmeckembnglhiaa
open Go.RowKit

theorem numl2 (w : World) (b1 b2 : Bool) (m1 m2 : Option Addr) (c1 c2 : Nat) (xs ys : List Nat) (t : TypeId) (h1 : Nums w (.slice m1 xs.length c1) xs) (h2 : Nums w (.slice m2 ys.length c2) ys) (l1 : xs.length ≤ 140737488355328) (l2 : ys.length ≤ 140737488355328) :
    NumL (w.alloc (.cells #[.bool b1, .slice m1 xs.length c1, .bool b2, .slice m2 ys.length c2] t)) (.slice (some ⟨w.heap.size, 0, none⟩) 2 2) [(b1, xs), (b2, ys)] := by
  have hh : (w.alloc (.cells #[.bool b1, .slice m1 xs.length c1, .bool b2, .slice m2 ys.length c2] t)).heap[w.heap.size]? = some (.cells #[.bool b1, .slice m1 xs.length c1, .bool b2, .slice m2 ys.length c2] t (0, 0)) := heap_alloc_new _ _
  have g1 := h1.below (below_alloc w (.cells #[.bool b1, .slice m1 xs.length c1, .bool b2, .slice m2 ys.length c2] t))
  have g2 := h2.below (below_alloc w (.cells #[.bool b1, .slice m1 xs.length c1, .bool b2, .slice m2 ys.length c2] t))
  generalize w.alloc (.cells #[.bool b1, .slice m1 xs.length c1, .bool b2, .slice m2 ys.length c2] t) = W at *
  refine ⟨_, 2, rfl, Nat.le_refl _, by decide, fun i => ?_, fun _ => ⟨_, 0, rfl, fun i hi => ?_⟩⟩
  · match i with
    | 0 => exact l1
    | 1 => exact l2
    | i + 2 => show (([] : List (Bool × List Nat)).getD i (false, [])).2.length ≤ _; simp
  · match i, hi with
    | 0, _ => exact ⟨m1, c1, by unfold World.cell?; simp only [hh]; rfl, by unfold World.cell?; simp only [hh]; rfl, g1⟩
    | 1, _ => exact ⟨m2, c2, by unfold World.cell?; simp only [hh]; rfl, by unfold World.cell?; simp only [hh]; rfl, g2⟩
theorem numll3 (w : World) (va vb vc : Value) (ns ms ps : List (Bool × List Nat)) (t : TypeId) (h1 : NumL w va ns) (h2 : NumL w vb ms) (h3 : NumL w vc ps) : NumLL (w.alloc (.cells #[va, vb, vc] t)) (.slice (some ⟨w.heap.size, 0, none⟩) 3 3) [ns, ms, ps] := by
  have hh : (w.alloc (.cells #[va, vb, vc] t)).heap[w.heap.size]? = some (.cells #[va, vb, vc] t (0, 0)) := heap_alloc_new _ _
  have g1 := h1.below (below_alloc w (.cells #[va, vb, vc] t))
  have g2 := h2.below (below_alloc w (.cells #[va, vb, vc] t))
  have g3 := h3.below (below_alloc w (.cells #[va, vb, vc] t))
  generalize w.alloc (.cells #[va, vb, vc] t) = W at *
  refine ⟨_, 3, rfl, Nat.le_refl _, by unfold maxLen; decide, fun _ => ⟨_, 0, rfl, fun i hi => ?_⟩⟩
  match i, hi with
  | 0, _ => exact ⟨va, by unfold World.cell?; simp only [hh]; rfl, g1⟩
  | 1, _ => exact ⟨vb, by unfold World.cell?; simp only [hh]; rfl, g2⟩
  | 2, _ => exact ⟨vc, by unfold World.cell?; simp only [hh]; rfl, g3⟩
theorem irow_ints {w : World} {b n : Nat} {zs : List Int} (h : IRow w b zs) (hn : zs.length = n) (hl : n ≤ maxLen) : Ints w (.slice (some ⟨b, 0, none⟩) n n) zs := by subst hn; exact h.ints hl
theorem few_lenM {ns : List (Bool × List Nat)} (h : Few ns) (i : Nat) : (ns.getD i (false, [])).2.length ≤ 1000000 := by
  rcases Nat.lt_or_ge i ns.length with hi | hi
  · exact Nat.le_trans (h.2 i hi) (by decide)
  · rw [List.getD_eq_getElem?_getD, List.getElem?_eq_none hi]; simp

set_option maxRecDepth 100000 in
set_option maxHeartbeats 16000000 in
theorem rmodule_walk (aa ab mc md : Option Addr) (ca cb cc cd : Nat) (cn dn : Bool) (ns ms : List (Bool × List Nat)) (xc xd : List Nat) (w : World)
    (h1 : NumL w (.slice aa ns.length ca) ns) (h2 : NumL w (.slice ab ms.length cb) ms) (h3 : Nums w (.slice mc xc.length cc) xc) (h4 : Nums w (.slice md xd.length cd) xd) (l3 : xc.length ≤ 140737488355328) (l4 : xd.length ≤ 140737488355328) :
    Calls Try.prog 5 #[.agg #[.slice aa ns.length ca, .slice ab ms.length cb, .bool cn, .slice mc xc.length cc, .bool dn, .slice md xd.length cd]] w fun e w' => e = .returned (.bool true) ∧ Below w.heap.size w w' := by
  have N1 := hide h1
  have N2 := hide h2
  have N3 := hide h3
  have N4 := hide h4
  have L3 := hide l3
  have L4 := hide l4
  have hla : ns.length ≤ 140737488355328 := by obtain ⟨a, c, he, k1, k2, _⟩ := h1; simp only [Value.slice.injEq] at he; omega
  have hlb : ms.length ≤ 140737488355328 := by obtain ⟨a, c, he, k1, k2, _⟩ := h2; simp only [Value.slice.injEq] at he; omega
  clear h1 h2 h3 h4 l3 l4
  have S6 : Hid ((w.alloc (.cells #[.slice aa ns.length ca, .slice ab ms.length cb, .bool cn, .slice mc xc.length cc, .bool dn, .slice md xd.length cd] 27)).heap[w.heap.size]? = some (.cells #[.slice aa ns.length ca, .slice ab ms.length cb, .bool cn, .slice mc xc.length cc, .bool dn, .slice md xd.length cd] 27 (0, 0))) := hide (heap_alloc_new _ _)
  have HB := hide (below_alloc w (.cells #[.slice aa ns.length ca, .slice ab ms.length cb, .bool cn, .slice mc xc.length cc, .bool dn, .slice md xd.length cd] 27))
  go_enter Try.func5, Try.ntmps5
  go_wp2_with fail
  generalize w.alloc (.cells #[.slice aa ns.length ca, .slice ab ms.length cb, .bool cn, .slice mc xc.length cc, .bool dn, .slice md xd.length cd] 27) = w0 at *
  refine (rlive_any _).mono ?_
  rintro e w1 ⟨rfl, hb⟩
  have LT6 : w.heap.size < w0.heap.size := (Array.getElem?_eq_some_iff.1 S6.out).1
  replace S6 := hide ((hb.block w.heap.size LT6).trans S6.out)
  replace HB := hide (HB.out.trans (hb.mono HB.out.size))
  clear hb LT6
  go_upto_region 3 with fail
  have s0 : w1.cell? ⟨w.heap.size, 0, none⟩ = some (.slice aa ns.length ca) := by unfold World.cell?; simp only [S6.out]; rfl
  have s1 : w1.cell? ⟨w.heap.size, 1, none⟩ = some (.slice ab ms.length cb) := by unfold World.cell?; simp only [S6.out]; rfl
  have s2 : w1.cell? ⟨w.heap.size, 2, none⟩ = some (.bool cn) := by unfold World.cell?; simp only [S6.out]; rfl
  have s3 : w1.cell? ⟨w.heap.size, 3, none⟩ = some (.slice mc xc.length cc) := by unfold World.cell?; simp only [S6.out]; rfl
  have s4 : w1.cell? ⟨w.heap.size, 4, none⟩ = some (.bool dn) := by unfold World.cell?; simp only [S6.out]; rfl
  have s5 : w1.cell? ⟨w.heap.size, 5, none⟩ = some (.slice md xd.length cd) := by unfold World.cell?; simp only [S6.out]; rfl
  have hlt6 : w.heap.size < w1.heap.size := (Array.getElem?_eq_some_iff.1 S6.out).1
  clear S6
  go_cut [3, 4, 5, 6] from 28 (fun p3 p4 p5 p6 wx => ∃ gc gd, p3 = (.slice aa ns.length ca) ∧ p4 = (.slice ab ms.length cb) ∧ p5 = .pointer (some ⟨gc, 0, none⟩) ∧ p6 = .pointer (some ⟨gd, 0, none⟩) ∧ CellAt wx ⟨gc, 0, none⟩ (.bool cn) ∧ CellAt wx ⟨gc, 1, none⟩ (.slice mc xc.length cc) ∧ CellAt wx ⟨gd, 0, none⟩ (.bool dn) ∧ CellAt wx ⟨gd, 1, none⟩ (.slice md xd.length cd) ∧ Below w.heap.size w wx)
  case first =>
    skip
    have NB1 := hide (nboxes2 25 w1 (.bool cn) (.slice mc xc.length cc) (.bool dn) (.slice md xd.length cd))
    have NB2 := hide (nboxes2 25 w1 (.bool dn) (.slice md xd.length cd) (.bool cn) (.slice mc xc.length cc))
    go_region
    · go_wp2
      go_meet
      case rel => exact ⟨_, _, rfl, rfl, rfl, rfl, ⟨NB1.out.1.cell0⟩, ⟨NB1.out.1.cell1⟩, ⟨NB1.out.2.1.cell0⟩, ⟨NB1.out.2.1.cell1⟩, (HB.out.trans (NB1.out.2.2.mono HB.out.size)).drew⟩
    · go_wp2
      go_meet
      case rel => exact ⟨_, _, rfl, rfl, rfl, rfl, ⟨NB2.out.2.1.cell0⟩, ⟨NB2.out.2.1.cell1⟩, ⟨NB2.out.1.cell0⟩, ⟨NB2.out.1.cell1⟩, (HB.out.trans (NB2.out.2.2.mono HB.out.size)).drew⟩
  case rest =>
  obtain ⟨gc, gd, rfl, rfl, rfl, rfl, k0, k1, k2, k3, hb⟩ := hcut
  clear HB s0 s1 s2 s3 s4 s5 hlt6
  have HB := hide hb
  have C0 := hide k0
  have C1 := hide k1
  have C2 := hide k2
  have C3 := hide k3
  clear hb k0 k1 k2 k3
  generalize hwc : wc = w2 at *
  clear hwc
  have c0 := C0.out.out
  have c1 := C1.out.out
  have c2 := C2.out.out
  have c3 := C3.out.out
  go_wp2_with fail
  clear c0 c1 c2 c3
  have al := below_alloc w2 (.cells #[.bool cn, .slice mc xc.length cc, .bool dn, .slice md xd.length cd] 25)
  have NL2 := hide (numl2 w2 cn dn mc md cc cd xc xd 25 (N3.out.below HB.out) (N4.out.below HB.out) L3.out L4.out)
  replace HB := hide (HB.out.trans ((al).mono HB.out.size))
  replace C0 := hide (C0.out.step (al))
  replace C1 := hide (C1.out.step (al))
  replace C2 := hide (C2.out.step (al))
  replace C3 := hide (C3.out.step (al))
  clear al
  have hsz : (w2.alloc (.cells #[.bool cn, .slice mc xc.length cc, .bool dn, .slice md xd.length cd] 25)).heap.size = w2.heap.size + 1 := World.size_alloc _ _
  rw [← hsz]
  clear hsz
  generalize w2.alloc (.cells #[.bool cn, .slice mc xc.length cc, .bool dn, .slice md xd.length cd] 25) = w2a at *
  obtain ⟨gl, hgl⟩ : ∃ gl, w2.heap.size = gl := ⟨_, rfl⟩
  rw [hgl] at NL2 ⊢
  clear hgl
  refine (rlong_any _ [ns, ms, [(cn, xc), (dn, xd)]] _ (numll3 w2a _ _ _ ns ms [(cn, xc), (dn, xd)] 22 (N1.out.below HB.out) (N2.out.below HB.out) NL2.out)).mono ?_
  rintro e w3 ⟨⟨r, rfl, hr⟩, rfl⟩
  have al := below_alloc w2a (.cells #[(.slice aa ns.length ca), (.slice ab ms.length cb), .slice (some ⟨gl, 0, none⟩) 2 2] 22)
  replace HB := hide (HB.out.trans ((al).mono HB.out.size))
  replace C0 := hide (C0.out.step (al))
  replace C1 := hide (C1.out.step (al))
  replace C2 := hide (C2.out.step (al))
  replace C3 := hide (C3.out.step (al))
  clear al NL2
  generalize w2a.alloc (.cells #[(.slice aa ns.length ca), (.slice ab ms.length cb), .slice (some ⟨gl, 0, none⟩) 2 2] 22) = w3 at *
  cases r with
  | true =>
    go_wp2
    go_ret
    exact ⟨rfl, HB.out⟩
  | false =>
  have FA : Hid (Few ns) := hide (hr rfl 0 (by simp))
  have FC : Hid (Few ms) := hide (hr rfl 1 (by simp))
  have FD : Hid (Few [(cn, xc), (dn, xd)]) := hide (hr rfl 2 (by simp))
  clear hr
  have LC : Hid (xc.length ≤ 300) := hide (FD.out.2 0 (by simp))
  have LD : Hid (xd.length ≤ 300) := hide (FD.out.2 1 (by simp))
  clear FD
  by_cases hlen : ns.length = ms.length
  rotate_left
  · have hne : (((ns.length : Nat) : Int) != ((ms.length : Nat) : Int)) = true := by simp; omega
    go_wp2
    go_ret
    exact ⟨rfl, HB.out⟩
  have hne : (((ns.length : Nat) : Int) != ((ms.length : Nat) : Int)) = false := by simp; omega
  have HLN := hide hlen
  clear hlen
  go_wp2_with fail
  refine (rowof_any _ ns _ (N1.out.below HB.out) (Nat.le_trans FA.out.1 (by decide)) (few_lenM FA.out)).mono ?_
  rintro e w4 ⟨vA, uA, rfl, hi, hr, hb⟩
  clear hne
  replace HB := hide (HB.out.trans ((hb).mono HB.out.size))
  replace C0 := hide (C0.out.step (hb))
  replace C1 := hide (C1.out.step (hb))
  replace C2 := hide (C2.out.step (hb))
  replace C3 := hide (C3.out.step (hb))
  have XA := hide hi
  clear hi hr hb
  go_wp2_with fail
  refine (rowof_any _ ms _ (N2.out.below HB.out) (Nat.le_trans FC.out.1 (by decide)) (few_lenM FC.out)).mono ?_
  rintro e w5 ⟨vC, uC, rfl, hi, hr, hb⟩
  replace HB := hide (HB.out.trans ((hb).mono HB.out.size))
  replace C0 := hide (C0.out.step (hb))
  replace C1 := hide (C1.out.step (hb))
  replace C2 := hide (C2.out.step (hb))
  replace C3 := hide (C3.out.step (hb))
  replace XA := hide (XA.out.below (hb))
  have XC := hide hi
  clear hi hr hb
  have SX := hide (numsZ_sz N1.out FA.out)
  have SY := hide (numsZ_sz N2.out FC.out)
  have LX : Hid ((numsZ ns).length ≤ 300) := hide (by have := FA.out.1; simpa [numsZ] using this)
  have HL : Hid ((numsZ ms).length = (numsZ ns).length) := hide (by have := HLN.out; simp [numsZ]; omega)
  have NC := hide (N3.out.below HB.out)
  have ND := hide (N4.out.below HB.out)
  have SM : Hid (SzI 300 (sg cn (val xc))) := hide (SzI.of N3.out.ok LC.out)
  have SN : Hid (SzI 300 (sg dn (val xd))) := hide (SzI.of N4.out.ok LD.out)
  clear N1 N2 N3 N4 FA FC HLN L3 L4
  generalize numsZ ns = xs at *
  generalize numsZ ms = ys at *
  obtain ⟨m, hm⟩ : ∃ m, sg cn (val xc) = m := ⟨_, rfl⟩
  obtain ⟨n, hn⟩ : ∃ n, sg dn (val xd) = n := ⟨_, rfl⟩
  have HM := hide hm
  have HN := hide hn
  rw [hm] at SM
  rw [hn] at SN
  clear hm hn
  go_upto_region 8 with fail
  go_cut [11, 12] from 28 (fun p11 p12 wx => ∃ ga gb sa ma la ca' sb mb lb cb', p11 = .pointer (some ⟨ga, 0, none⟩) ∧ p12 = .pointer (some ⟨gb, 0, none⟩) ∧ Box wx ga (.bool sa) (.slice ma la ca') ∧ Box wx gb (.bool sb) (.slice mb lb cb') ∧ IntAt wx (.agg #[.bool sa, .slice ma la ca']) m ∧ IntAt wx (.agg #[.bool sb, .slice mb lb cb']) n ∧ Below w5.heap.size w5 wx)
  case first =>
    skip
    refine wp_calm (fun w' => Below w5.heap.size w5 w') (fun _ => true) 14 #[false, false, false, false, false, false, false, false, false, false, false, false, false, false] (by as_aux_lemma => kernel_rfl) rfl rfl ?_
    have HF := hide ((Below.refl w5.heap.size w5).drew)
    generalize w5.drew = w5d at *
    refine Calm.take (i := 0) (v := ?_) (a' := ?_) (l' := #[true, false, false, false, false, false, false, false, false, false, false, false, false, false]) (d := some 62) rfl (by as_aux_lemma => kernel_rfl) (by as_aux_lemma => kernel_rfl) (by as_aux_lemma => kernel_rfl) (by as_aux_lemma => kernel_rfl) (fun _ _ _ h => h) HF.out rfl ?_ rfl rfl ?_ ?_
    rotate_left
    · intro w' hF; clear hF; go_simp; try rfl
    rotate_left
    · simp only [Act.put]; exact rfl
    refine Calm.take (i := 1) (v := ?_) (a' := ?_) (l' := #[true, true, false, false, false, false, false, false, false, false, false, false, false, false]) (d := some 63) rfl (by as_aux_lemma => kernel_rfl) (by as_aux_lemma => kernel_rfl) (by as_aux_lemma => kernel_rfl) (by as_aux_lemma => kernel_rfl) (fun _ _ _ h => h) HF.out rfl ?_ rfl rfl ?_ ?_
    rotate_left
    · intro w' hF; have f0 := (C0.out.step hF).out; have f1 := (C1.out.step hF).out; have f2 := (C2.out.step hF).out; have f3 := (C3.out.step hF).out; clear hF; go_simp; try rfl
    rotate_left
    · simp only [Act.put]; exact rfl
    refine Calm.take (i := 2) (v := ?_) (a' := ?_) (l' := #[true, true, true, false, false, false, false, false, false, false, false, false, false, false]) (d := some 64) rfl (by as_aux_lemma => kernel_rfl) (by as_aux_lemma => kernel_rfl) (by as_aux_lemma => kernel_rfl) (by as_aux_lemma => kernel_rfl) (fun _ _ _ h => h) HF.out rfl ?_ rfl rfl ?_ ?_
    rotate_left
    · intro w' hF; clear hF; go_simp; try rfl
    rotate_left
    · simp only [Act.put]; exact rfl
    refine Calm.take (i := 3) (v := ?_) (a' := ?_) (l' := #[true, true, true, true, false, false, false, false, false, false, false, false, false, false]) (d := some 65) rfl (by as_aux_lemma => kernel_rfl) (by as_aux_lemma => kernel_rfl) (by as_aux_lemma => kernel_rfl) (by as_aux_lemma => kernel_rfl) (fun _ _ _ h => h) HF.out rfl ?_ rfl rfl ?_ ?_
    rotate_left
    · intro w' hF; have f0 := (C0.out.step hF).out; have f1 := (C1.out.step hF).out; have f2 := (C2.out.step hF).out; have f3 := (C3.out.step hF).out; clear hF; go_simp; try rfl
    rotate_left
    · simp only [Act.put]; exact rfl
    refine Calm.take (i := 5) (v := ?_) (a' := ?_) (l' := #[true, true, true, true, false, true, false, false, false, false, false, false, false, false]) (d := some 67) rfl (by as_aux_lemma => kernel_rfl) (by as_aux_lemma => kernel_rfl) (by as_aux_lemma => kernel_rfl) (by as_aux_lemma => kernel_rfl) (fun _ _ _ h => h) HF.out rfl ?_ rfl rfl ?_ ?_
    rotate_left
    · intro w' hF; clear hF; go_simp; try rfl
    rotate_left
    · simp only [Act.put]; exact rfl
    refine Calm.take (i := 6) (v := ?_) (a' := ?_) (l' := #[true, true, true, true, false, true, true, false, false, false, false, false, false, false]) (d := some 68) rfl (by as_aux_lemma => kernel_rfl) (by as_aux_lemma => kernel_rfl) (by as_aux_lemma => kernel_rfl) (by as_aux_lemma => kernel_rfl) (fun _ _ _ h => h) HF.out rfl ?_ rfl rfl ?_ ?_
    rotate_left
    · intro w' hF; have f0 := (C0.out.step hF).out; have f1 := (C1.out.step hF).out; have f2 := (C2.out.step hF).out; have f3 := (C3.out.step hF).out; clear hF; go_simp; try rfl
    rotate_left
    · simp only [Act.put]; exact rfl
    refine Calm.take (i := 7) (v := ?_) (a' := ?_) (l' := #[true, true, true, true, false, true, true, true, false, false, false, false, false, false]) (d := some 69) rfl (by as_aux_lemma => kernel_rfl) (by as_aux_lemma => kernel_rfl) (by as_aux_lemma => kernel_rfl) (by as_aux_lemma => kernel_rfl) (fun _ _ _ h => h) HF.out rfl ?_ rfl rfl ?_ ?_
    rotate_left
    · intro w' hF; clear hF; go_simp; try rfl
    rotate_left
    · simp only [Act.put]; exact rfl
    refine Calm.take (i := 8) (v := ?_) (a' := ?_) (l' := #[true, true, true, true, false, true, true, true, true, false, false, false, false, false]) (d := some 70) rfl (by as_aux_lemma => kernel_rfl) (by as_aux_lemma => kernel_rfl) (by as_aux_lemma => kernel_rfl) (by as_aux_lemma => kernel_rfl) (fun _ _ _ h => h) HF.out rfl ?_ rfl rfl ?_ ?_
    rotate_left
    · intro w' hF; have f0 := (C0.out.step hF).out; have f1 := (C1.out.step hF).out; have f2 := (C2.out.step hF).out; have f3 := (C3.out.step hF).out; clear hF; go_simp; try rfl
    rotate_left
    · simp only [Act.put]; exact rfl
    refine Calm.three (i := 4) (j := 10) (m := 11) (l := #[true, true, true, true, true, true, true, true, true, false, false, false, false, false]) (l' := #[true, true, true, true, false, true, true, true, true, false, true, false, false, false]) (l'' := #[true, true, true, true, false, true, true, true, true, false, false, true, false, false]) (by as_aux_lemma => kernel_rfl) rfl rfl rfl rfl rfl rfl rfl rfl rfl (fun K hK => ?_) (fun K hK => ?_) (fun K hK => ?_)
    · go_simp
      refine (make_any cn _ xc _ (NC.out.below HF.out) (by have := LC.out; omega)).mono ?_
      rintro e u1 ⟨v, rfl, i, hb⟩
      rw [HM.out] at i
      obtain ⟨sa, ma, la, ca', rfl, i⟩ := i.cells
      have HF' := hide (HF.out.trans ((hb).mono HF.out.size))
      have T1 := hide (i)
      refine hK _ _ (fun _ => HF'.out) ?_
      clear hK K HF hb i
      have HF := hide HF'.out
      clear HF'
      refine Calm.three (i := 9) (j := 10) (m := 11) (l := #[true, true, true, true, true, true, true, true, true, true, false, false, false, false]) (l' := #[true, true, true, true, true, true, true, true, true, false, true, false, false, false]) (l'' := #[true, true, true, true, true, true, true, true, true, false, false, true, false, false]) (by as_aux_lemma => kernel_rfl) rfl rfl rfl rfl rfl rfl rfl rfl rfl (fun K hK => ?_) (fun K hK => ?_) (fun K hK => ?_)
      · go_simp
        refine (make_any dn _ xd _ (ND.out.below HF.out) (by have := LD.out; omega)).mono ?_
        rintro e u2 ⟨v, rfl, i, hb⟩
        rw [HN.out] at i
        obtain ⟨sb, mb, lb, cb', rfl, i⟩ := i.cells
        replace T1 := hide (T1.out.below (hb))
        have HF' := hide (HF.out.trans ((hb).mono HF.out.size))
        have T2 := hide (i)
        refine hK _ _ (fun _ => HF'.out) ?_
        clear hK K HF hb i
        have HF := hide HF'.out
        clear HF'
        refine Calm.two (i := 10) (j := 11) (l := #[true, true, true, true, true, true, true, true, true, true, true, false, false, false]) (l' := #[true, true, true, true, true, true, true, true, true, true, false, true, false, false]) (by as_aux_lemma => kernel_rfl) rfl rfl rfl rfl rfl rfl (fun K hK => ?_) (fun K hK => ?_)
        · go_simp
          have al := below_alloc u2 (.cells #[.bool false, .slice none 0 0] 36)
          have HF' := hide (HF.out.trans ((al).mono HF.out.size))
          have BXa := hide (Box.new u2 (.bool false) (.slice none 0 0))
          replace T1 := hide (T1.out.below (al))
          replace T2 := hide (T2.out.below (al))
          have GEa := hide (HF.out.size)
          refine hK _ _ (fun _ => HF'.out) ?_
          clear hK K HF al
          have HF := hide HF'.out
          clear HF'
          generalize u2.alloc (.cells #[.bool false, .slice none 0 0] 36) = wza at *
          generalize u2.heap.size = ga at *
          refine Calm.one (i := 11) (l' := #[true, true, true, true, true, true, true, true, true, true, true, true, false, false]) (by as_aux_lemma => kernel_rfl) rfl rfl rfl fun K hK => ?_
          go_simp
          have al := below_alloc wza (.cells #[.bool false, .slice none 0 0] 36)
          have HF' := hide (HF.out.trans ((al).mono HF.out.size))
          have BXb := hide (Box.new wza (.bool false) (.slice none 0 0))
          replace T1 := hide (T1.out.below (al))
          replace T2 := hide (T2.out.below (al))
          have LTab := hide (BXa.out.lt)
          replace BXa := hide (BXa.out.step al)
          have GEb := hide (HF.out.size)
          refine hK _ _ (fun _ => HF'.out) ?_
          clear hK K HF al
          have HF := hide HF'.out
          clear HF'
          generalize wza.alloc (.cells #[.bool false, .slice none 0 0] 36) = wzb at *
          generalize wza.heap.size = gb at *
          refine Calm.one (i := 12) (l' := #[true, true, true, true, true, true, true, true, true, true, true, true, true, false]) (by as_aux_lemma => kernel_rfl) rfl rfl rfl fun K hK => ?_
          first | (have LTS := hide (And.intro GEa.out (And.intro GEb.out (Nat.ne_of_lt LTab.out)))) | (have LTS := hide (And.intro GEa.out (And.intro GEb.out (Nat.ne_of_gt LTba.out))))
          have hc0 := BXa.out.cell0
          have hc1 := BXa.out.cell1
          have hf0 := BXa.out.free 0
          have hf1 := BXa.out.free 1
          go_simp
          have HF' := hide (below_put HF.out (show w5.heap.size ≤ ga by have hx := LTS.out; omega) (.bool sa) (.slice ma la ca'))
          replace T1 := hide (T1.out.keep (BXa.out.keeps (by simp) (by simp) (.bool sa) (.slice ma la ca')))
          replace T2 := hide (T2.out.keep (BXa.out.keeps (by simp) (by simp) (.bool sa) (.slice ma la ca')))
          replace BXb := hide (BXb.out.other (C := ga) (by have hx := LTS.out; omega) (.bool sa) (.slice ma la ca'))
          replace BXa := hide (BXa.out.put (.bool sa) (.slice ma la ca'))
          refine hK _ _ (fun _ => HF'.out) ?_
          clear hK K HF hc0 hf0 hc1 hf1
          have HF := hide HF'.out
          clear HF'
          generalize ((wzb.setCell ⟨ga, 0, none⟩ (.bool sa)).setCell ⟨ga, 1, none⟩ (.slice ma la ca')) = ws1 at *
          refine Calm.one (i := 13) (l' := #[true, true, true, true, true, true, true, true, true, true, true, true, true, true]) (by as_aux_lemma => kernel_rfl) rfl rfl rfl fun K hK => ?_
          have hc0 := BXb.out.cell0
          have hc1 := BXb.out.cell1
          have hf0 := BXb.out.free 0
          have hf1 := BXb.out.free 1
          go_simp
          have HF' := hide (below_put HF.out (show w5.heap.size ≤ gb by have hx := LTS.out; omega) (.bool sb) (.slice mb lb cb'))
          replace T1 := hide (T1.out.keep (BXb.out.keeps (by simp) (by simp) (.bool sb) (.slice mb lb cb')))
          replace T2 := hide (T2.out.keep (BXb.out.keeps (by simp) (by simp) (.bool sb) (.slice mb lb cb')))
          replace BXa := hide (BXa.out.other (C := gb) (by have hx := LTS.out; omega) (.bool sb) (.slice mb lb cb'))
          replace BXb := hide (BXb.out.put (.bool sb) (.slice mb lb cb'))
          refine hK _ _ (fun _ => HF'.out) ?_
          clear hK K HF hc0 hf0 hc1 hf1
          have HF := hide HF'.out
          clear HF'
          generalize ((ws1.setCell ⟨gb, 0, none⟩ (.bool sb)).setCell ⟨gb, 1, none⟩ (.slice mb lb cb')) = ws2 at *
          refine Calm.done (by as_aux_lemma => kernel_rfl) ?_
          as_aux_lemma =>
            go_wp2
            go_meet
            case rel => exact ⟨ga, gb, sa, ma, la, ca', sb, mb, lb, cb', rfl, rfl, BXa.out, BXb.out, T1.out, T2.out, HF.out⟩
        · go_simp
          have al := below_alloc u2 (.cells #[.bool false, .slice none 0 0] 36)
          have HF' := hide (HF.out.trans ((al).mono HF.out.size))
          have BXb := hide (Box.new u2 (.bool false) (.slice none 0 0))
          replace T1 := hide (T1.out.below (al))
          replace T2 := hide (T2.out.below (al))
          have GEb := hide (HF.out.size)
          refine hK _ _ (fun _ => HF'.out) ?_
          clear hK K HF al
          have HF := hide HF'.out
          clear HF'
          generalize u2.alloc (.cells #[.bool false, .slice none 0 0] 36) = wzb at *
          generalize u2.heap.size = gb at *
          refine Calm.one (i := 10) (l' := #[true, true, true, true, true, true, true, true, true, true, true, true, false, false]) (by as_aux_lemma => kernel_rfl) rfl rfl rfl fun K hK => ?_
          go_simp
          have al := below_alloc wzb (.cells #[.bool false, .slice none 0 0] 36)
          have HF' := hide (HF.out.trans ((al).mono HF.out.size))
          have BXa := hide (Box.new wzb (.bool false) (.slice none 0 0))
          replace T1 := hide (T1.out.below (al))
          replace T2 := hide (T2.out.below (al))
          have LTba := hide (BXb.out.lt)
          replace BXb := hide (BXb.out.step al)
          have GEa := hide (HF.out.size)
          refine hK _ _ (fun _ => HF'.out) ?_
          clear hK K HF al
          have HF := hide HF'.out
          clear HF'
          generalize wzb.alloc (.cells #[.bool false, .slice none 0 0] 36) = wza at *
          generalize wzb.heap.size = ga at *
          refine Calm.one (i := 12) (l' := #[true, true, true, true, true, true, true, true, true, true, true, true, true, false]) (by as_aux_lemma => kernel_rfl) rfl rfl rfl fun K hK => ?_
          first | (have LTS := hide (And.intro GEa.out (And.intro GEb.out (Nat.ne_of_lt LTab.out)))) | (have LTS := hide (And.intro GEa.out (And.intro GEb.out (Nat.ne_of_gt LTba.out))))
          have hc0 := BXa.out.cell0
          have hc1 := BXa.out.cell1
          have hf0 := BXa.out.free 0
          have hf1 := BXa.out.free 1
          go_simp
          have HF' := hide (below_put HF.out (show w5.heap.size ≤ ga by have hx := LTS.out; omega) (.bool sa) (.slice ma la ca'))
          replace T1 := hide (T1.out.keep (BXa.out.keeps (by simp) (by simp) (.bool sa) (.slice ma la ca')))
          replace T2 := hide (T2.out.keep (BXa.out.keeps (by simp) (by simp) (.bool sa) (.slice ma la ca')))
          replace BXb := hide (BXb.out.other (C := ga) (by have hx := LTS.out; omega) (.bool sa) (.slice ma la ca'))
          replace BXa := hide (BXa.out.put (.bool sa) (.slice ma la ca'))
          refine hK _ _ (fun _ => HF'.out) ?_
          clear hK K HF hc0 hf0 hc1 hf1
          have HF := hide HF'.out
          clear HF'
          generalize ((wza.setCell ⟨ga, 0, none⟩ (.bool sa)).setCell ⟨ga, 1, none⟩ (.slice ma la ca')) = ws1 at *
          refine Calm.one (i := 13) (l' := #[true, true, true, true, true, true, true, true, true, true, true, true, true, true]) (by as_aux_lemma => kernel_rfl) rfl rfl rfl fun K hK => ?_
          have hc0 := BXb.out.cell0
          have hc1 := BXb.out.cell1
          have hf0 := BXb.out.free 0
          have hf1 := BXb.out.free 1
          go_simp
          have HF' := hide (below_put HF.out (show w5.heap.size ≤ gb by have hx := LTS.out; omega) (.bool sb) (.slice mb lb cb'))
          replace T1 := hide (T1.out.keep (BXb.out.keeps (by simp) (by simp) (.bool sb) (.slice mb lb cb')))
          replace T2 := hide (T2.out.keep (BXb.out.keeps (by simp) (by simp) (.bool sb) (.slice mb lb cb')))
          replace BXa := hide (BXa.out.other (C := gb) (by have hx := LTS.out; omega) (.bool sb) (.slice mb lb cb'))
          replace BXb := hide (BXb.out.put (.bool sb) (.slice mb lb cb'))
          refine hK _ _ (fun _ => HF'.out) ?_
          clear hK K HF hc0 hf0 hc1 hf1
          have HF := hide HF'.out
          clear HF'
          generalize ((ws1.setCell ⟨gb, 0, none⟩ (.bool sb)).setCell ⟨gb, 1, none⟩ (.slice mb lb cb')) = ws2 at *
          refine Calm.done (by as_aux_lemma => kernel_rfl) ?_
          as_aux_lemma =>
            go_wp2
            go_meet
            case rel => exact ⟨ga, gb, sa, ma, la, ca', sb, mb, lb, cb', rfl, rfl, BXa.out, BXb.out, T1.out, T2.out, HF.out⟩
      · go_simp
        have al := below_alloc u1 (.cells #[.bool false, .slice none 0 0] 36)
        have HF' := hide (HF.out.trans ((al).mono HF.out.size))
        have BXa := hide (Box.new u1 (.bool false) (.slice none 0 0))
        replace T1 := hide (T1.out.below (al))
        have GEa := hide (HF.out.size)
        refine hK _ _ (fun _ => HF'.out) ?_
        clear hK K HF al
        have HF := hide HF'.out
        clear HF'
        generalize u1.alloc (.cells #[.bool false, .slice none 0 0] 36) = wza at *
        generalize u1.heap.size = ga at *
        refine Calm.two (i := 9) (j := 11) (l := #[true, true, true, true, true, true, true, true, true, true, true, false, false, false]) (l' := #[true, true, true, true, true, true, true, true, true, false, true, true, false, false]) (by as_aux_lemma => kernel_rfl) rfl rfl rfl rfl rfl rfl (fun K hK => ?_) (fun K hK => ?_)
        · go_simp
          refine (make_any dn _ xd _ (ND.out.below HF.out) (by have := LD.out; omega)).mono ?_
          rintro e u2 ⟨v, rfl, i, hb⟩
          rw [HN.out] at i
          obtain ⟨sb, mb, lb, cb', rfl, i⟩ := i.cells
          replace T1 := hide (T1.out.below (hb))
          replace BXa := hide (BXa.out.step hb)
          have HF' := hide (HF.out.trans ((hb).mono HF.out.size))
          have T2 := hide (i)
          refine hK _ _ (fun _ => HF'.out) ?_
          clear hK K HF hb i
          have HF := hide HF'.out
          clear HF'
          refine Calm.one (i := 11) (l' := #[true, true, true, true, true, true, true, true, true, true, true, true, false, false]) (by as_aux_lemma => kernel_rfl) rfl rfl rfl fun K hK => ?_
          go_simp
          have al := below_alloc u2 (.cells #[.bool false, .slice none 0 0] 36)
          have HF' := hide (HF.out.trans ((al).mono HF.out.size))
          have BXb := hide (Box.new u2 (.bool false) (.slice none 0 0))
          replace T1 := hide (T1.out.below (al))
          replace T2 := hide (T2.out.below (al))
          have LTab := hide (BXa.out.lt)
          replace BXa := hide (BXa.out.step al)
          have GEb := hide (HF.out.size)
          refine hK _ _ (fun _ => HF'.out) ?_
          clear hK K HF al
          have HF := hide HF'.out
          clear HF'
          generalize u2.alloc (.cells #[.bool false, .slice none 0 0] 36) = wzb at *
          generalize u2.heap.size = gb at *
          refine Calm.one (i := 12) (l' := #[true, true, true, true, true, true, true, true, true, true, true, true, true, false]) (by as_aux_lemma => kernel_rfl) rfl rfl rfl fun K hK => ?_
          first | (have LTS := hide (And.intro GEa.out (And.intro GEb.out (Nat.ne_of_lt LTab.out)))) | (have LTS := hide (And.intro GEa.out (And.intro GEb.out (Nat.ne_of_gt LTba.out))))
          have hc0 := BXa.out.cell0
          have hc1 := BXa.out.cell1
          have hf0 := BXa.out.free 0
          have hf1 := BXa.out.free 1
          go_simp
          have HF' := hide (below_put HF.out (show w5.heap.size ≤ ga by have hx := LTS.out; omega) (.bool sa) (.slice ma la ca'))
          replace T1 := hide (T1.out.keep (BXa.out.keeps (by simp) (by simp) (.bool sa) (.slice ma la ca')))
          replace T2 := hide (T2.out.keep (BXa.out.keeps (by simp) (by simp) (.bool sa) (.slice ma la ca')))
          replace BXb := hide (BXb.out.other (C := ga) (by have hx := LTS.out; omega) (.bool sa) (.slice ma la ca'))
          replace BXa := hide (BXa.out.put (.bool sa) (.slice ma la ca'))
          refine hK _ _ (fun _ => HF'.out) ?_
          clear hK K HF hc0 hf0 hc1 hf1
          have HF := hide HF'.out
          clear HF'
          generalize ((wzb.setCell ⟨ga, 0, none⟩ (.bool sa)).setCell ⟨ga, 1, none⟩ (.slice ma la ca')) = ws1 at *
          refine Calm.one (i := 13) (l' := #[true, true, true, true, true, true, true, true, true, true, true, true, true, true]) (by as_aux_lemma => kernel_rfl) rfl rfl rfl fun K hK => ?_
          have hc0 := BXb.out.cell0
          have hc1 := BXb.out.cell1
          have hf0 := BXb.out.free 0
          have hf1 := BXb.out.free 1
          go_simp
          have HF' := hide (below_put HF.out (show w5.heap.size ≤ gb by have hx := LTS.out; omega) (.bool sb) (.slice mb lb cb'))
          replace T1 := hide (T1.out.keep (BXb.out.keeps (by simp) (by simp) (.bool sb) (.slice mb lb cb')))
          replace T2 := hide (T2.out.keep (BXb.out.keeps (by simp) (by simp) (.bool sb) (.slice mb lb cb')))
          replace BXa := hide (BXa.out.other (C := gb) (by have hx := LTS.out; omega) (.bool sb) (.slice mb lb cb'))
          replace BXb := hide (BXb.out.put (.bool sb) (.slice mb lb cb'))
          refine hK _ _ (fun _ => HF'.out) ?_
          clear hK K HF hc0 hf0 hc1 hf1
          have HF := hide HF'.out
          clear HF'
          generalize ((ws1.setCell ⟨gb, 0, none⟩ (.bool sb)).setCell ⟨gb, 1, none⟩ (.slice mb lb cb')) = ws2 at *
          refine Calm.done (by as_aux_lemma => kernel_rfl) ?_
          as_aux_lemma =>
            go_wp2
            go_meet
            case rel => exact ⟨ga, gb, sa, ma, la, ca', sb, mb, lb, cb', rfl, rfl, BXa.out, BXb.out, T1.out, T2.out, HF.out⟩
        · go_simp
          have al := below_alloc wza (.cells #[.bool false, .slice none 0 0] 36)
          have HF' := hide (HF.out.trans ((al).mono HF.out.size))
          have BXb := hide (Box.new wza (.bool false) (.slice none 0 0))
          replace T1 := hide (T1.out.below (al))
          have LTab := hide (BXa.out.lt)
          replace BXa := hide (BXa.out.step al)
          have GEb := hide (HF.out.size)
          refine hK _ _ (fun _ => HF'.out) ?_
          clear hK K HF al
          have HF := hide HF'.out
          clear HF'
          generalize wza.alloc (.cells #[.bool false, .slice none 0 0] 36) = wzb at *
          generalize wza.heap.size = gb at *
          refine Calm.one (i := 9) (l' := #[true, true, true, true, true, true, true, true, true, true, true, true, false, false]) (by as_aux_lemma => kernel_rfl) rfl rfl rfl fun K hK => ?_
          go_simp
          refine (make_any dn _ xd _ (ND.out.below HF.out) (by have := LD.out; omega)).mono ?_
          rintro e u2 ⟨v, rfl, i, hb⟩
          rw [HN.out] at i
          obtain ⟨sb, mb, lb, cb', rfl, i⟩ := i.cells
          replace T1 := hide (T1.out.below (hb))
          replace BXa := hide (BXa.out.step hb)
          replace BXb := hide (BXb.out.step hb)
          have HF' := hide (HF.out.trans ((hb).mono HF.out.size))
          have T2 := hide (i)
          refine hK _ _ (fun _ => HF'.out) ?_
          clear hK K HF hb i
          have HF := hide HF'.out
          clear HF'
          refine Calm.one (i := 12) (l' := #[true, true, true, true, true, true, true, true, true, true, true, true, true, false]) (by as_aux_lemma => kernel_rfl) rfl rfl rfl fun K hK => ?_
          first | (have LTS := hide (And.intro GEa.out (And.intro GEb.out (Nat.ne_of_lt LTab.out)))) | (have LTS := hide (And.intro GEa.out (And.intro GEb.out (Nat.ne_of_gt LTba.out))))
          have hc0 := BXa.out.cell0
          have hc1 := BXa.out.cell1
          have hf0 := BXa.out.free 0
          have hf1 := BXa.out.free 1
          go_simp
          have HF' := hide (below_put HF.out (show w5.heap.size ≤ ga by have hx := LTS.out; omega) (.bool sa) (.slice ma la ca'))
          replace T1 := hide (T1.out.keep (BXa.out.keeps (by simp) (by simp) (.bool sa) (.slice ma la ca')))
          replace T2 := hide (T2.out.keep (BXa.out.keeps (by simp) (by simp) (.bool sa) (.slice ma la ca')))
          replace BXb := hide (BXb.out.other (C := ga) (by have hx := LTS.out; omega) (.bool sa) (.slice ma la ca'))
          replace BXa := hide (BXa.out.put (.bool sa) (.slice ma la ca'))
          refine hK _ _ (fun _ => HF'.out) ?_
          clear hK K HF hc0 hf0 hc1 hf1
          have HF := hide HF'.out
          clear HF'
          generalize ((u2.setCell ⟨ga, 0, none⟩ (.bool sa)).setCell ⟨ga, 1, none⟩ (.slice ma la ca')) = ws1 at *
          refine Calm.one (i := 13) (l' := #[true, true, true, true, true, true, true, true, true, true, true, true, true, true]) (by as_aux_lemma => kernel_rfl) rfl rfl rfl fun K hK => ?_
          have hc0 := BXb.out.cell0
          have hc1 := BXb.out.cell1
          have hf0 := BXb.out.free 0
          have hf1 := BXb.out.free 1
          go_simp
          have HF' := hide (below_put HF.out (show w5.heap.size ≤ gb by have hx := LTS.out; omega) (.bool sb) (.slice mb lb cb'))
          replace T1 := hide (T1.out.keep (BXb.out.keeps (by simp) (by simp) (.bool sb) (.slice mb lb cb')))
          replace T2 := hide (T2.out.keep (BXb.out.keeps (by simp) (by simp) (.bool sb) (.slice mb lb cb')))
          replace BXa := hide (BXa.out.other (C := gb) (by have hx := LTS.out; omega) (.bool sb) (.slice mb lb cb'))
          replace BXb := hide (BXb.out.put (.bool sb) (.slice mb lb cb'))
          refine hK _ _ (fun _ => HF'.out) ?_
          clear hK K HF hc0 hf0 hc1 hf1
          have HF := hide HF'.out
          clear HF'
          generalize ((ws1.setCell ⟨gb, 0, none⟩ (.bool sb)).setCell ⟨gb, 1, none⟩ (.slice mb lb cb')) = ws2 at *
          refine Calm.done (by as_aux_lemma => kernel_rfl) ?_
          as_aux_lemma =>
            go_wp2
            go_meet
            case rel => exact ⟨ga, gb, sa, ma, la, ca', sb, mb, lb, cb', rfl, rfl, BXa.out, BXb.out, T1.out, T2.out, HF.out⟩
      · go_simp
        have al := below_alloc u1 (.cells #[.bool false, .slice none 0 0] 36)
        have HF' := hide (HF.out.trans ((al).mono HF.out.size))
        have BXb := hide (Box.new u1 (.bool false) (.slice none 0 0))
        replace T1 := hide (T1.out.below (al))
        have GEb := hide (HF.out.size)
        refine hK _ _ (fun _ => HF'.out) ?_
        clear hK K HF al
        have HF := hide HF'.out
        clear HF'
        generalize u1.alloc (.cells #[.bool false, .slice none 0 0] 36) = wzb at *
        generalize u1.heap.size = gb at *
        refine Calm.two (i := 9) (j := 10) (l := #[true, true, true, true, true, true, true, true, true, true, false, true, false, false]) (l' := #[true, true, true, true, true, true, true, true, true, false, true, true, false, false]) (by as_aux_lemma => kernel_rfl) rfl rfl rfl rfl rfl rfl (fun K hK => ?_) (fun K hK => ?_)
        · go_simp
          refine (make_any dn _ xd _ (ND.out.below HF.out) (by have := LD.out; omega)).mono ?_
          rintro e u2 ⟨v, rfl, i, hb⟩
          rw [HN.out] at i
          obtain ⟨sb, mb, lb, cb', rfl, i⟩ := i.cells
          replace T1 := hide (T1.out.below (hb))
          replace BXb := hide (BXb.out.step hb)
          have HF' := hide (HF.out.trans ((hb).mono HF.out.size))
          have T2 := hide (i)
          refine hK _ _ (fun _ => HF'.out) ?_
          clear hK K HF hb i
          have HF := hide HF'.out
          clear HF'
          refine Calm.one (i := 10) (l' := #[true, true, true, true, true, true, true, true, true, true, true, true, false, false]) (by as_aux_lemma => kernel_rfl) rfl rfl rfl fun K hK => ?_
          go_simp
          have al := below_alloc u2 (.cells #[.bool false, .slice none 0 0] 36)
          have HF' := hide (HF.out.trans ((al).mono HF.out.size))
          have BXa := hide (Box.new u2 (.bool false) (.slice none 0 0))
          replace T1 := hide (T1.out.below (al))
          replace T2 := hide (T2.out.below (al))
          have LTba := hide (BXb.out.lt)
          replace BXb := hide (BXb.out.step al)
          have GEa := hide (HF.out.size)
          refine hK _ _ (fun _ => HF'.out) ?_
          clear hK K HF al
          have HF := hide HF'.out
          clear HF'
          generalize u2.alloc (.cells #[.bool false, .slice none 0 0] 36) = wza at *
          generalize u2.heap.size = ga at *
          refine Calm.one (i := 12) (l' := #[true, true, true, true, true, true, true, true, true, true, true, true, true, false]) (by as_aux_lemma => kernel_rfl) rfl rfl rfl fun K hK => ?_
          first | (have LTS := hide (And.intro GEa.out (And.intro GEb.out (Nat.ne_of_lt LTab.out)))) | (have LTS := hide (And.intro GEa.out (And.intro GEb.out (Nat.ne_of_gt LTba.out))))
          have hc0 := BXa.out.cell0
          have hc1 := BXa.out.cell1
          have hf0 := BXa.out.free 0
          have hf1 := BXa.out.free 1
          go_simp
          have HF' := hide (below_put HF.out (show w5.heap.size ≤ ga by have hx := LTS.out; omega) (.bool sa) (.slice ma la ca'))
          replace T1 := hide (T1.out.keep (BXa.out.keeps (by simp) (by simp) (.bool sa) (.slice ma la ca')))
          replace T2 := hide (T2.out.keep (BXa.out.keeps (by simp) (by simp) (.bool sa) (.slice ma la ca')))
          replace BXb := hide (BXb.out.other (C := ga) (by have hx := LTS.out; omega) (.bool sa) (.slice ma la ca'))
          replace BXa := hide (BXa.out.put (.bool sa) (.slice ma la ca'))
          refine hK _ _ (fun _ => HF'.out) ?_
          clear hK K HF hc0 hf0 hc1 hf1
          have HF := hide HF'.out
          clear HF'
          generalize ((wza.setCell ⟨ga, 0, none⟩ (.bool sa)).setCell ⟨ga, 1, none⟩ (.slice ma la ca')) = ws1 at *
          refine Calm.one (i := 13) (l' := #[true, true, true, true, true, true, true, true, true, true, true, true, true, true]) (by as_aux_lemma => kernel_rfl) rfl rfl rfl fun K hK => ?_
          have hc0 := BXb.out.cell0
          have hc1 := BXb.out.cell1
          have hf0 := BXb.out.free 0
          have hf1 := BXb.out.free 1
          go_simp
          have HF' := hide (below_put HF.out (show w5.heap.size ≤ gb by have hx := LTS.out; omega) (.bool sb) (.slice mb lb cb'))
          replace T1 := hide (T1.out.keep (BXb.out.keeps (by simp) (by simp) (.bool sb) (.slice mb lb cb')))
          replace T2 := hide (T2.out.keep (BXb.out.keeps (by simp) (by simp) (.bool sb) (.slice mb lb cb')))
          replace BXa := hide (BXa.out.other (C := gb) (by have hx := LTS.out; omega) (.bool sb) (.slice mb lb cb'))
          replace BXb := hide (BXb.out.put (.bool sb) (.slice mb lb cb'))
          refine hK _ _ (fun _ => HF'.out) ?_
          clear hK K HF hc0 hf0 hc1 hf1
          have HF := hide HF'.out
          clear HF'
          generalize ((ws1.setCell ⟨gb, 0, none⟩ (.bool sb)).setCell ⟨gb, 1, none⟩ (.slice mb lb cb')) = ws2 at *
          refine Calm.done (by as_aux_lemma => kernel_rfl) ?_
          as_aux_lemma =>
            go_wp2
            go_meet
            case rel => exact ⟨ga, gb, sa, ma, la, ca', sb, mb, lb, cb', rfl, rfl, BXa.out, BXb.out, T1.out, T2.out, HF.out⟩
        · go_simp
          have al := below_alloc wzb (.cells #[.bool false, .slice none 0 0] 36)
          have HF' := hide (HF.out.trans ((al).mono HF.out.size))
          have BXa := hide (Box.new wzb (.bool false) (.slice none 0 0))
          replace T1 := hide (T1.out.below (al))
          have LTba := hide (BXb.out.lt)
          replace BXb := hide (BXb.out.step al)
          have GEa := hide (HF.out.size)
          refine hK _ _ (fun _ => HF'.out) ?_
          clear hK K HF al
          have HF := hide HF'.out
          clear HF'
          generalize wzb.alloc (.cells #[.bool false, .slice none 0 0] 36) = wza at *
          generalize wzb.heap.size = ga at *
          refine Calm.one (i := 9) (l' := #[true, true, true, true, true, true, true, true, true, true, true, true, false, false]) (by as_aux_lemma => kernel_rfl) rfl rfl rfl fun K hK => ?_
          go_simp
          refine (make_any dn _ xd _ (ND.out.below HF.out) (by have := LD.out; omega)).mono ?_
          rintro e u2 ⟨v, rfl, i, hb⟩
          rw [HN.out] at i
          obtain ⟨sb, mb, lb, cb', rfl, i⟩ := i.cells
          replace T1 := hide (T1.out.below (hb))
          replace BXb := hide (BXb.out.step hb)
          replace BXa := hide (BXa.out.step hb)
          have HF' := hide (HF.out.trans ((hb).mono HF.out.size))
          have T2 := hide (i)
          refine hK _ _ (fun _ => HF'.out) ?_
          clear hK K HF hb i
          have HF := hide HF'.out
          clear HF'
          refine Calm.one (i := 12) (l' := #[true, true, true, true, true, true, true, true, true, true, true, true, true, false]) (by as_aux_lemma => kernel_rfl) rfl rfl rfl fun K hK => ?_
          first | (have LTS := hide (And.intro GEa.out (And.intro GEb.out (Nat.ne_of_lt LTab.out)))) | (have LTS := hide (And.intro GEa.out (And.intro GEb.out (Nat.ne_of_gt LTba.out))))
          have hc0 := BXa.out.cell0
          have hc1 := BXa.out.cell1
          have hf0 := BXa.out.free 0
          have hf1 := BXa.out.free 1
          go_simp
          have HF' := hide (below_put HF.out (show w5.heap.size ≤ ga by have hx := LTS.out; omega) (.bool sa) (.slice ma la ca'))
          replace T1 := hide (T1.out.keep (BXa.out.keeps (by simp) (by simp) (.bool sa) (.slice ma la ca')))
          replace T2 := hide (T2.out.keep (BXa.out.keeps (by simp) (by simp) (.bool sa) (.slice ma la ca')))
          replace BXb := hide (BXb.out.other (C := ga) (by have hx := LTS.out; omega) (.bool sa) (.slice ma la ca'))
          replace BXa := hide (BXa.out.put (.bool sa) (.slice ma la ca'))
          refine hK _ _ (fun _ => HF'.out) ?_
          clear hK K HF hc0 hf0 hc1 hf1
          have HF := hide HF'.out
          clear HF'
          generalize ((u2.setCell ⟨ga, 0, none⟩ (.bool sa)).setCell ⟨ga, 1, none⟩ (.slice ma la ca')) = ws1 at *
          refine Calm.one (i := 13) (l' := #[true, true, true, true, true, true, true, true, true, true, true, true, true, true]) (by as_aux_lemma => kernel_rfl) rfl rfl rfl fun K hK => ?_
          have hc0 := BXb.out.cell0
          have hc1 := BXb.out.cell1
          have hf0 := BXb.out.free 0
          have hf1 := BXb.out.free 1
          go_simp
          have HF' := hide (below_put HF.out (show w5.heap.size ≤ gb by have hx := LTS.out; omega) (.bool sb) (.slice mb lb cb'))
          replace T1 := hide (T1.out.keep (BXb.out.keeps (by simp) (by simp) (.bool sb) (.slice mb lb cb')))
          replace T2 := hide (T2.out.keep (BXb.out.keeps (by simp) (by simp) (.bool sb) (.slice mb lb cb')))
          replace BXa := hide (BXa.out.other (C := gb) (by have hx := LTS.out; omega) (.bool sb) (.slice mb lb cb'))
          replace BXb := hide (BXb.out.put (.bool sb) (.slice mb lb cb'))
          refine hK _ _ (fun _ => HF'.out) ?_
          clear hK K HF hc0 hf0 hc1 hf1
          have HF := hide HF'.out
          clear HF'
          generalize ((ws1.setCell ⟨gb, 0, none⟩ (.bool sb)).setCell ⟨gb, 1, none⟩ (.slice mb lb cb')) = ws2 at *
          refine Calm.done (by as_aux_lemma => kernel_rfl) ?_
          as_aux_lemma =>
            go_wp2
            go_meet
            case rel => exact ⟨ga, gb, sa, ma, la, ca', sb, mb, lb, cb', rfl, rfl, BXa.out, BXb.out, T1.out, T2.out, HF.out⟩
    · go_simp
      have al := below_alloc w5d (.cells #[.bool false, .slice none 0 0] 36)
      have HF' := hide (HF.out.trans ((al).mono HF.out.size))
      have BXa := hide (Box.new w5d (.bool false) (.slice none 0 0))
      have GEa := hide (HF.out.size)
      refine hK _ _ (fun _ => HF'.out) ?_
      clear hK K HF al
      have HF := hide HF'.out
      clear HF'
      generalize w5d.alloc (.cells #[.bool false, .slice none 0 0] 36) = wza at *
      generalize w5d.heap.size = ga at *
      refine Calm.two (i := 4) (j := 11) (l := #[true, true, true, true, true, true, true, true, true, false, true, false, false, false]) (l' := #[true, true, true, true, false, true, true, true, true, false, true, true, false, false]) (by as_aux_lemma => kernel_rfl) rfl rfl rfl rfl rfl rfl (fun K hK => ?_) (fun K hK => ?_)
      · go_simp
        refine (make_any cn _ xc _ (NC.out.below HF.out) (by have := LC.out; omega)).mono ?_
        rintro e u1 ⟨v, rfl, i, hb⟩
        rw [HM.out] at i
        obtain ⟨sa, ma, la, ca', rfl, i⟩ := i.cells
        replace BXa := hide (BXa.out.step hb)
        have HF' := hide (HF.out.trans ((hb).mono HF.out.size))
        have T1 := hide (i)
        refine hK _ _ (fun _ => HF'.out) ?_
        clear hK K HF hb i
        have HF := hide HF'.out
        clear HF'
        refine Calm.two (i := 9) (j := 11) (l := #[true, true, true, true, true, true, true, true, true, true, true, false, false, false]) (l' := #[true, true, true, true, true, true, true, true, true, false, true, true, false, false]) (by as_aux_lemma => kernel_rfl) rfl rfl rfl rfl rfl rfl (fun K hK => ?_) (fun K hK => ?_)
        · go_simp
          refine (make_any dn _ xd _ (ND.out.below HF.out) (by have := LD.out; omega)).mono ?_
          rintro e u2 ⟨v, rfl, i, hb⟩
          rw [HN.out] at i
          obtain ⟨sb, mb, lb, cb', rfl, i⟩ := i.cells
          replace T1 := hide (T1.out.below (hb))
          replace BXa := hide (BXa.out.step hb)
          have HF' := hide (HF.out.trans ((hb).mono HF.out.size))
          have T2 := hide (i)
          refine hK _ _ (fun _ => HF'.out) ?_
          clear hK K HF hb i
          have HF := hide HF'.out
          clear HF'
          refine Calm.one (i := 11) (l' := #[true, true, true, true, true, true, true, true, true, true, true, true, false, false]) (by as_aux_lemma => kernel_rfl) rfl rfl rfl fun K hK => ?_
          go_simp
          have al := below_alloc u2 (.cells #[.bool false, .slice none 0 0] 36)
          have HF' := hide (HF.out.trans ((al).mono HF.out.size))
          have BXb := hide (Box.new u2 (.bool false) (.slice none 0 0))
          replace T1 := hide (T1.out.below (al))
          replace T2 := hide (T2.out.below (al))
          have LTab := hide (BXa.out.lt)
          replace BXa := hide (BXa.out.step al)
          have GEb := hide (HF.out.size)
          refine hK _ _ (fun _ => HF'.out) ?_
          clear hK K HF al
          have HF := hide HF'.out
          clear HF'
          generalize u2.alloc (.cells #[.bool false, .slice none 0 0] 36) = wzb at *
          generalize u2.heap.size = gb at *
          refine Calm.one (i := 12) (l' := #[true, true, true, true, true, true, true, true, true, true, true, true, true, false]) (by as_aux_lemma => kernel_rfl) rfl rfl rfl fun K hK => ?_
          first | (have LTS := hide (And.intro GEa.out (And.intro GEb.out (Nat.ne_of_lt LTab.out)))) | (have LTS := hide (And.intro GEa.out (And.intro GEb.out (Nat.ne_of_gt LTba.out))))
          have hc0 := BXa.out.cell0
          have hc1 := BXa.out.cell1
          have hf0 := BXa.out.free 0
          have hf1 := BXa.out.free 1
          go_simp
          have HF' := hide (below_put HF.out (show w5.heap.size ≤ ga by have hx := LTS.out; omega) (.bool sa) (.slice ma la ca'))
          replace T1 := hide (T1.out.keep (BXa.out.keeps (by simp) (by simp) (.bool sa) (.slice ma la ca')))
          replace T2 := hide (T2.out.keep (BXa.out.keeps (by simp) (by simp) (.bool sa) (.slice ma la ca')))
          replace BXb := hide (BXb.out.other (C := ga) (by have hx := LTS.out; omega) (.bool sa) (.slice ma la ca'))
          replace BXa := hide (BXa.out.put (.bool sa) (.slice ma la ca'))
          refine hK _ _ (fun _ => HF'.out) ?_
          clear hK K HF hc0 hf0 hc1 hf1
          have HF := hide HF'.out
          clear HF'
          generalize ((wzb.setCell ⟨ga, 0, none⟩ (.bool sa)).setCell ⟨ga, 1, none⟩ (.slice ma la ca')) = ws1 at *
          refine Calm.one (i := 13) (l' := #[true, true, true, true, true, true, true, true, true, true, true, true, true, true]) (by as_aux_lemma => kernel_rfl) rfl rfl rfl fun K hK => ?_
          have hc0 := BXb.out.cell0
          have hc1 := BXb.out.cell1
          have hf0 := BXb.out.free 0
          have hf1 := BXb.out.free 1
          go_simp
          have HF' := hide (below_put HF.out (show w5.heap.size ≤ gb by have hx := LTS.out; omega) (.bool sb) (.slice mb lb cb'))
          replace T1 := hide (T1.out.keep (BXb.out.keeps (by simp) (by simp) (.bool sb) (.slice mb lb cb')))
          replace T2 := hide (T2.out.keep (BXb.out.keeps (by simp) (by simp) (.bool sb) (.slice mb lb cb')))
          replace BXa := hide (BXa.out.other (C := gb) (by have hx := LTS.out; omega) (.bool sb) (.slice mb lb cb'))
          replace BXb := hide (BXb.out.put (.bool sb) (.slice mb lb cb'))
          refine hK _ _ (fun _ => HF'.out) ?_
          clear hK K HF hc0 hf0 hc1 hf1
          have HF := hide HF'.out
          clear HF'
          generalize ((ws1.setCell ⟨gb, 0, none⟩ (.bool sb)).setCell ⟨gb, 1, none⟩ (.slice mb lb cb')) = ws2 at *
          refine Calm.done (by as_aux_lemma => kernel_rfl) ?_
          as_aux_lemma =>
            go_wp2
            go_meet
            case rel => exact ⟨ga, gb, sa, ma, la, ca', sb, mb, lb, cb', rfl, rfl, BXa.out, BXb.out, T1.out, T2.out, HF.out⟩
        · go_simp
          have al := below_alloc u1 (.cells #[.bool false, .slice none 0 0] 36)
          have HF' := hide (HF.out.trans ((al).mono HF.out.size))
          have BXb := hide (Box.new u1 (.bool false) (.slice none 0 0))
          replace T1 := hide (T1.out.below (al))
          have LTab := hide (BXa.out.lt)
          replace BXa := hide (BXa.out.step al)
          have GEb := hide (HF.out.size)
          refine hK _ _ (fun _ => HF'.out) ?_
          clear hK K HF al
          have HF := hide HF'.out
          clear HF'
          generalize u1.alloc (.cells #[.bool false, .slice none 0 0] 36) = wzb at *
          generalize u1.heap.size = gb at *
          refine Calm.one (i := 9) (l' := #[true, true, true, true, true, true, true, true, true, true, true, true, false, false]) (by as_aux_lemma => kernel_rfl) rfl rfl rfl fun K hK => ?_
          go_simp
          refine (make_any dn _ xd _ (ND.out.below HF.out) (by have := LD.out; omega)).mono ?_
          rintro e u2 ⟨v, rfl, i, hb⟩
          rw [HN.out] at i
          obtain ⟨sb, mb, lb, cb', rfl, i⟩ := i.cells
          replace T1 := hide (T1.out.below (hb))
          replace BXa := hide (BXa.out.step hb)
          replace BXb := hide (BXb.out.step hb)
          have HF' := hide (HF.out.trans ((hb).mono HF.out.size))
          have T2 := hide (i)
          refine hK _ _ (fun _ => HF'.out) ?_
          clear hK K HF hb i
          have HF := hide HF'.out
          clear HF'
          refine Calm.one (i := 12) (l' := #[true, true, true, true, true, true, true, true, true, true, true, true, true, false]) (by as_aux_lemma => kernel_rfl) rfl rfl rfl fun K hK => ?_
          first | (have LTS := hide (And.intro GEa.out (And.intro GEb.out (Nat.ne_of_lt LTab.out)))) | (have LTS := hide (And.intro GEa.out (And.intro GEb.out (Nat.ne_of_gt LTba.out))))
          have hc0 := BXa.out.cell0
          have hc1 := BXa.out.cell1
          have hf0 := BXa.out.free 0
          have hf1 := BXa.out.free 1
          go_simp
          have HF' := hide (below_put HF.out (show w5.heap.size ≤ ga by have hx := LTS.out; omega) (.bool sa) (.slice ma la ca'))
          replace T1 := hide (T1.out.keep (BXa.out.keeps (by simp) (by simp) (.bool sa) (.slice ma la ca')))
          replace T2 := hide (T2.out.keep (BXa.out.keeps (by simp) (by simp) (.bool sa) (.slice ma la ca')))
          replace BXb := hide (BXb.out.other (C := ga) (by have hx := LTS.out; omega) (.bool sa) (.slice ma la ca'))
          replace BXa := hide (BXa.out.put (.bool sa) (.slice ma la ca'))
          refine hK _ _ (fun _ => HF'.out) ?_
          clear hK K HF hc0 hf0 hc1 hf1
          have HF := hide HF'.out
          clear HF'
          generalize ((u2.setCell ⟨ga, 0, none⟩ (.bool sa)).setCell ⟨ga, 1, none⟩ (.slice ma la ca')) = ws1 at *
          refine Calm.one (i := 13) (l' := #[true, true, true, true, true, true, true, true, true, true, true, true, true, true]) (by as_aux_lemma => kernel_rfl) rfl rfl rfl fun K hK => ?_
          have hc0 := BXb.out.cell0
          have hc1 := BXb.out.cell1
          have hf0 := BXb.out.free 0
          have hf1 := BXb.out.free 1
          go_simp
          have HF' := hide (below_put HF.out (show w5.heap.size ≤ gb by have hx := LTS.out; omega) (.bool sb) (.slice mb lb cb'))
          replace T1 := hide (T1.out.keep (BXb.out.keeps (by simp) (by simp) (.bool sb) (.slice mb lb cb')))
          replace T2 := hide (T2.out.keep (BXb.out.keeps (by simp) (by simp) (.bool sb) (.slice mb lb cb')))
          replace BXa := hide (BXa.out.other (C := gb) (by have hx := LTS.out; omega) (.bool sb) (.slice mb lb cb'))
          replace BXb := hide (BXb.out.put (.bool sb) (.slice mb lb cb'))
          refine hK _ _ (fun _ => HF'.out) ?_
          clear hK K HF hc0 hf0 hc1 hf1
          have HF := hide HF'.out
          clear HF'
          generalize ((ws1.setCell ⟨gb, 0, none⟩ (.bool sb)).setCell ⟨gb, 1, none⟩ (.slice mb lb cb')) = ws2 at *
          refine Calm.done (by as_aux_lemma => kernel_rfl) ?_
          as_aux_lemma =>
            go_wp2
            go_meet
            case rel => exact ⟨ga, gb, sa, ma, la, ca', sb, mb, lb, cb', rfl, rfl, BXa.out, BXb.out, T1.out, T2.out, HF.out⟩
      · go_simp
        have al := below_alloc wza (.cells #[.bool false, .slice none 0 0] 36)
        have HF' := hide (HF.out.trans ((al).mono HF.out.size))
        have BXb := hide (Box.new wza (.bool false) (.slice none 0 0))
        have LTab := hide (BXa.out.lt)
        replace BXa := hide (BXa.out.step al)
        have GEb := hide (HF.out.size)
        refine hK _ _ (fun _ => HF'.out) ?_
        clear hK K HF al
        have HF := hide HF'.out
        clear HF'
        generalize wza.alloc (.cells #[.bool false, .slice none 0 0] 36) = wzb at *
        generalize wza.heap.size = gb at *
        refine Calm.one (i := 4) (l' := #[true, true, true, true, true, true, true, true, true, false, true, true, false, false]) (by as_aux_lemma => kernel_rfl) rfl rfl rfl fun K hK => ?_
        go_simp
        refine (make_any cn _ xc _ (NC.out.below HF.out) (by have := LC.out; omega)).mono ?_
        rintro e u1 ⟨v, rfl, i, hb⟩
        rw [HM.out] at i
        obtain ⟨sa, ma, la, ca', rfl, i⟩ := i.cells
        replace BXa := hide (BXa.out.step hb)
        replace BXb := hide (BXb.out.step hb)
        have HF' := hide (HF.out.trans ((hb).mono HF.out.size))
        have T1 := hide (i)
        refine hK _ _ (fun _ => HF'.out) ?_
        clear hK K HF hb i
        have HF := hide HF'.out
        clear HF'
        refine Calm.one (i := 9) (l' := #[true, true, true, true, true, true, true, true, true, true, true, true, false, false]) (by as_aux_lemma => kernel_rfl) rfl rfl rfl fun K hK => ?_
        go_simp
        refine (make_any dn _ xd _ (ND.out.below HF.out) (by have := LD.out; omega)).mono ?_
        rintro e u2 ⟨v, rfl, i, hb⟩
        rw [HN.out] at i
        obtain ⟨sb, mb, lb, cb', rfl, i⟩ := i.cells
        replace T1 := hide (T1.out.below (hb))
        replace BXa := hide (BXa.out.step hb)
        replace BXb := hide (BXb.out.step hb)
        have HF' := hide (HF.out.trans ((hb).mono HF.out.size))
        have T2 := hide (i)
        refine hK _ _ (fun _ => HF'.out) ?_
        clear hK K HF hb i
        have HF := hide HF'.out
        clear HF'
        refine Calm.one (i := 12) (l' := #[true, true, true, true, true, true, true, true, true, true, true, true, true, false]) (by as_aux_lemma => kernel_rfl) rfl rfl rfl fun K hK => ?_
        first | (have LTS := hide (And.intro GEa.out (And.intro GEb.out (Nat.ne_of_lt LTab.out)))) | (have LTS := hide (And.intro GEa.out (And.intro GEb.out (Nat.ne_of_gt LTba.out))))
        have hc0 := BXa.out.cell0
        have hc1 := BXa.out.cell1
        have hf0 := BXa.out.free 0
        have hf1 := BXa.out.free 1
        go_simp
        have HF' := hide (below_put HF.out (show w5.heap.size ≤ ga by have hx := LTS.out; omega) (.bool sa) (.slice ma la ca'))
        replace T1 := hide (T1.out.keep (BXa.out.keeps (by simp) (by simp) (.bool sa) (.slice ma la ca')))
        replace T2 := hide (T2.out.keep (BXa.out.keeps (by simp) (by simp) (.bool sa) (.slice ma la ca')))
        replace BXb := hide (BXb.out.other (C := ga) (by have hx := LTS.out; omega) (.bool sa) (.slice ma la ca'))
        replace BXa := hide (BXa.out.put (.bool sa) (.slice ma la ca'))
        refine hK _ _ (fun _ => HF'.out) ?_
        clear hK K HF hc0 hf0 hc1 hf1
        have HF := hide HF'.out
        clear HF'
        generalize ((u2.setCell ⟨ga, 0, none⟩ (.bool sa)).setCell ⟨ga, 1, none⟩ (.slice ma la ca')) = ws1 at *
        refine Calm.one (i := 13) (l' := #[true, true, true, true, true, true, true, true, true, true, true, true, true, true]) (by as_aux_lemma => kernel_rfl) rfl rfl rfl fun K hK => ?_
        have hc0 := BXb.out.cell0
        have hc1 := BXb.out.cell1
        have hf0 := BXb.out.free 0
        have hf1 := BXb.out.free 1
        go_simp
        have HF' := hide (below_put HF.out (show w5.heap.size ≤ gb by have hx := LTS.out; omega) (.bool sb) (.slice mb lb cb'))
        replace T1 := hide (T1.out.keep (BXb.out.keeps (by simp) (by simp) (.bool sb) (.slice mb lb cb')))
        replace T2 := hide (T2.out.keep (BXb.out.keeps (by simp) (by simp) (.bool sb) (.slice mb lb cb')))
        replace BXa := hide (BXa.out.other (C := gb) (by have hx := LTS.out; omega) (.bool sb) (.slice mb lb cb'))
        replace BXb := hide (BXb.out.put (.bool sb) (.slice mb lb cb'))
        refine hK _ _ (fun _ => HF'.out) ?_
        clear hK K HF hc0 hf0 hc1 hf1
        have HF := hide HF'.out
        clear HF'
        generalize ((ws1.setCell ⟨gb, 0, none⟩ (.bool sb)).setCell ⟨gb, 1, none⟩ (.slice mb lb cb')) = ws2 at *
        refine Calm.done (by as_aux_lemma => kernel_rfl) ?_
        as_aux_lemma =>
          go_wp2
          go_meet
          case rel => exact ⟨ga, gb, sa, ma, la, ca', sb, mb, lb, cb', rfl, rfl, BXa.out, BXb.out, T1.out, T2.out, HF.out⟩
    · go_simp
      have al := below_alloc w5d (.cells #[.bool false, .slice none 0 0] 36)
      have HF' := hide (HF.out.trans ((al).mono HF.out.size))
      have BXb := hide (Box.new w5d (.bool false) (.slice none 0 0))
      have GEb := hide (HF.out.size)
      refine hK _ _ (fun _ => HF'.out) ?_
      clear hK K HF al
      have HF := hide HF'.out
      clear HF'
      generalize w5d.alloc (.cells #[.bool false, .slice none 0 0] 36) = wzb at *
      generalize w5d.heap.size = gb at *
      refine Calm.two (i := 4) (j := 10) (l := #[true, true, true, true, true, true, true, true, true, false, false, true, false, false]) (l' := #[true, true, true, true, false, true, true, true, true, false, true, true, false, false]) (by as_aux_lemma => kernel_rfl) rfl rfl rfl rfl rfl rfl (fun K hK => ?_) (fun K hK => ?_)
      · go_simp
        refine (make_any cn _ xc _ (NC.out.below HF.out) (by have := LC.out; omega)).mono ?_
        rintro e u1 ⟨v, rfl, i, hb⟩
        rw [HM.out] at i
        obtain ⟨sa, ma, la, ca', rfl, i⟩ := i.cells
        replace BXb := hide (BXb.out.step hb)
        have HF' := hide (HF.out.trans ((hb).mono HF.out.size))
        have T1 := hide (i)
        refine hK _ _ (fun _ => HF'.out) ?_
        clear hK K HF hb i
        have HF := hide HF'.out
        clear HF'
        refine Calm.two (i := 9) (j := 10) (l := #[true, true, true, true, true, true, true, true, true, true, false, true, false, false]) (l' := #[true, true, true, true, true, true, true, true, true, false, true, true, false, false]) (by as_aux_lemma => kernel_rfl) rfl rfl rfl rfl rfl rfl (fun K hK => ?_) (fun K hK => ?_)
        · go_simp
          refine (make_any dn _ xd _ (ND.out.below HF.out) (by have := LD.out; omega)).mono ?_
          rintro e u2 ⟨v, rfl, i, hb⟩
          rw [HN.out] at i
          obtain ⟨sb, mb, lb, cb', rfl, i⟩ := i.cells
          replace T1 := hide (T1.out.below (hb))
          replace BXb := hide (BXb.out.step hb)
          have HF' := hide (HF.out.trans ((hb).mono HF.out.size))
          have T2 := hide (i)
          refine hK _ _ (fun _ => HF'.out) ?_
          clear hK K HF hb i
          have HF := hide HF'.out
          clear HF'
          refine Calm.one (i := 10) (l' := #[true, true, true, true, true, true, true, true, true, true, true, true, false, false]) (by as_aux_lemma => kernel_rfl) rfl rfl rfl fun K hK => ?_
          go_simp
          have al := below_alloc u2 (.cells #[.bool false, .slice none 0 0] 36)
          have HF' := hide (HF.out.trans ((al).mono HF.out.size))
          have BXa := hide (Box.new u2 (.bool false) (.slice none 0 0))
          replace T1 := hide (T1.out.below (al))
          replace T2 := hide (T2.out.below (al))
          have LTba := hide (BXb.out.lt)
          replace BXb := hide (BXb.out.step al)
          have GEa := hide (HF.out.size)
          refine hK _ _ (fun _ => HF'.out) ?_
          clear hK K HF al
          have HF := hide HF'.out
          clear HF'
          generalize u2.alloc (.cells #[.bool false, .slice none 0 0] 36) = wza at *
          generalize u2.heap.size = ga at *
          refine Calm.one (i := 12) (l' := #[true, true, true, true, true, true, true, true, true, true, true, true, true, false]) (by as_aux_lemma => kernel_rfl) rfl rfl rfl fun K hK => ?_
          first | (have LTS := hide (And.intro GEa.out (And.intro GEb.out (Nat.ne_of_lt LTab.out)))) | (have LTS := hide (And.intro GEa.out (And.intro GEb.out (Nat.ne_of_gt LTba.out))))
          have hc0 := BXa.out.cell0
          have hc1 := BXa.out.cell1
          have hf0 := BXa.out.free 0
          have hf1 := BXa.out.free 1
          go_simp
          have HF' := hide (below_put HF.out (show w5.heap.size ≤ ga by have hx := LTS.out; omega) (.bool sa) (.slice ma la ca'))
          replace T1 := hide (T1.out.keep (BXa.out.keeps (by simp) (by simp) (.bool sa) (.slice ma la ca')))
          replace T2 := hide (T2.out.keep (BXa.out.keeps (by simp) (by simp) (.bool sa) (.slice ma la ca')))
          replace BXb := hide (BXb.out.other (C := ga) (by have hx := LTS.out; omega) (.bool sa) (.slice ma la ca'))
          replace BXa := hide (BXa.out.put (.bool sa) (.slice ma la ca'))
          refine hK _ _ (fun _ => HF'.out) ?_
          clear hK K HF hc0 hf0 hc1 hf1
          have HF := hide HF'.out
          clear HF'
          generalize ((wza.setCell ⟨ga, 0, none⟩ (.bool sa)).setCell ⟨ga, 1, none⟩ (.slice ma la ca')) = ws1 at *
          refine Calm.one (i := 13) (l' := #[true, true, true, true, true, true, true, true, true, true, true, true, true, true]) (by as_aux_lemma => kernel_rfl) rfl rfl rfl fun K hK => ?_
          have hc0 := BXb.out.cell0
          have hc1 := BXb.out.cell1
          have hf0 := BXb.out.free 0
          have hf1 := BXb.out.free 1
          go_simp
          have HF' := hide (below_put HF.out (show w5.heap.size ≤ gb by have hx := LTS.out; omega) (.bool sb) (.slice mb lb cb'))
          replace T1 := hide (T1.out.keep (BXb.out.keeps (by simp) (by simp) (.bool sb) (.slice mb lb cb')))
          replace T2 := hide (T2.out.keep (BXb.out.keeps (by simp) (by simp) (.bool sb) (.slice mb lb cb')))
          replace BXa := hide (BXa.out.other (C := gb) (by have hx := LTS.out; omega) (.bool sb) (.slice mb lb cb'))
          replace BXb := hide (BXb.out.put (.bool sb) (.slice mb lb cb'))
          refine hK _ _ (fun _ => HF'.out) ?_
          clear hK K HF hc0 hf0 hc1 hf1
          have HF := hide HF'.out
          clear HF'
          generalize ((ws1.setCell ⟨gb, 0, none⟩ (.bool sb)).setCell ⟨gb, 1, none⟩ (.slice mb lb cb')) = ws2 at *
          refine Calm.done (by as_aux_lemma => kernel_rfl) ?_
          as_aux_lemma =>
            go_wp2
            go_meet
            case rel => exact ⟨ga, gb, sa, ma, la, ca', sb, mb, lb, cb', rfl, rfl, BXa.out, BXb.out, T1.out, T2.out, HF.out⟩
        · go_simp
          have al := below_alloc u1 (.cells #[.bool false, .slice none 0 0] 36)
          have HF' := hide (HF.out.trans ((al).mono HF.out.size))
          have BXa := hide (Box.new u1 (.bool false) (.slice none 0 0))
          replace T1 := hide (T1.out.below (al))
          have LTba := hide (BXb.out.lt)
          replace BXb := hide (BXb.out.step al)
          have GEa := hide (HF.out.size)
          refine hK _ _ (fun _ => HF'.out) ?_
          clear hK K HF al
          have HF := hide HF'.out
          clear HF'
          generalize u1.alloc (.cells #[.bool false, .slice none 0 0] 36) = wza at *
          generalize u1.heap.size = ga at *
          refine Calm.one (i := 9) (l' := #[true, true, true, true, true, true, true, true, true, true, true, true, false, false]) (by as_aux_lemma => kernel_rfl) rfl rfl rfl fun K hK => ?_
          go_simp
          refine (make_any dn _ xd _ (ND.out.below HF.out) (by have := LD.out; omega)).mono ?_
          rintro e u2 ⟨v, rfl, i, hb⟩
          rw [HN.out] at i
          obtain ⟨sb, mb, lb, cb', rfl, i⟩ := i.cells
          replace T1 := hide (T1.out.below (hb))
          replace BXb := hide (BXb.out.step hb)
          replace BXa := hide (BXa.out.step hb)
          have HF' := hide (HF.out.trans ((hb).mono HF.out.size))
          have T2 := hide (i)
          refine hK _ _ (fun _ => HF'.out) ?_
          clear hK K HF hb i
          have HF := hide HF'.out
          clear HF'
          refine Calm.one (i := 12) (l' := #[true, true, true, true, true, true, true, true, true, true, true, true, true, false]) (by as_aux_lemma => kernel_rfl) rfl rfl rfl fun K hK => ?_
          first | (have LTS := hide (And.intro GEa.out (And.intro GEb.out (Nat.ne_of_lt LTab.out)))) | (have LTS := hide (And.intro GEa.out (And.intro GEb.out (Nat.ne_of_gt LTba.out))))
          have hc0 := BXa.out.cell0
          have hc1 := BXa.out.cell1
          have hf0 := BXa.out.free 0
          have hf1 := BXa.out.free 1
          go_simp
          have HF' := hide (below_put HF.out (show w5.heap.size ≤ ga by have hx := LTS.out; omega) (.bool sa) (.slice ma la ca'))
          replace T1 := hide (T1.out.keep (BXa.out.keeps (by simp) (by simp) (.bool sa) (.slice ma la ca')))
          replace T2 := hide (T2.out.keep (BXa.out.keeps (by simp) (by simp) (.bool sa) (.slice ma la ca')))
          replace BXb := hide (BXb.out.other (C := ga) (by have hx := LTS.out; omega) (.bool sa) (.slice ma la ca'))
          replace BXa := hide (BXa.out.put (.bool sa) (.slice ma la ca'))
          refine hK _ _ (fun _ => HF'.out) ?_
          clear hK K HF hc0 hf0 hc1 hf1
          have HF := hide HF'.out
          clear HF'
          generalize ((u2.setCell ⟨ga, 0, none⟩ (.bool sa)).setCell ⟨ga, 1, none⟩ (.slice ma la ca')) = ws1 at *
          refine Calm.one (i := 13) (l' := #[true, true, true, true, true, true, true, true, true, true, true, true, true, true]) (by as_aux_lemma => kernel_rfl) rfl rfl rfl fun K hK => ?_
          have hc0 := BXb.out.cell0
          have hc1 := BXb.out.cell1
          have hf0 := BXb.out.free 0
          have hf1 := BXb.out.free 1
          go_simp
          have HF' := hide (below_put HF.out (show w5.heap.size ≤ gb by have hx := LTS.out; omega) (.bool sb) (.slice mb lb cb'))
          replace T1 := hide (T1.out.keep (BXb.out.keeps (by simp) (by simp) (.bool sb) (.slice mb lb cb')))
          replace T2 := hide (T2.out.keep (BXb.out.keeps (by simp) (by simp) (.bool sb) (.slice mb lb cb')))
          replace BXa := hide (BXa.out.other (C := gb) (by have hx := LTS.out; omega) (.bool sb) (.slice mb lb cb'))
          replace BXb := hide (BXb.out.put (.bool sb) (.slice mb lb cb'))
          refine hK _ _ (fun _ => HF'.out) ?_
          clear hK K HF hc0 hf0 hc1 hf1
          have HF := hide HF'.out
          clear HF'
          generalize ((ws1.setCell ⟨gb, 0, none⟩ (.bool sb)).setCell ⟨gb, 1, none⟩ (.slice mb lb cb')) = ws2 at *
          refine Calm.done (by as_aux_lemma => kernel_rfl) ?_
          as_aux_lemma =>
            go_wp2
            go_meet
            case rel => exact ⟨ga, gb, sa, ma, la, ca', sb, mb, lb, cb', rfl, rfl, BXa.out, BXb.out, T1.out, T2.out, HF.out⟩
      · go_simp
        have al := below_alloc wzb (.cells #[.bool false, .slice none 0 0] 36)
        have HF' := hide (HF.out.trans ((al).mono HF.out.size))
        have BXa := hide (Box.new wzb (.bool false) (.slice none 0 0))
        have LTba := hide (BXb.out.lt)
        replace BXb := hide (BXb.out.step al)
        have GEa := hide (HF.out.size)
        refine hK _ _ (fun _ => HF'.out) ?_
        clear hK K HF al
        have HF := hide HF'.out
        clear HF'
        generalize wzb.alloc (.cells #[.bool false, .slice none 0 0] 36) = wza at *
        generalize wzb.heap.size = ga at *
        refine Calm.one (i := 4) (l' := #[true, true, true, true, true, true, true, true, true, false, true, true, false, false]) (by as_aux_lemma => kernel_rfl) rfl rfl rfl fun K hK => ?_
        go_simp
        refine (make_any cn _ xc _ (NC.out.below HF.out) (by have := LC.out; omega)).mono ?_
        rintro e u1 ⟨v, rfl, i, hb⟩
        rw [HM.out] at i
        obtain ⟨sa, ma, la, ca', rfl, i⟩ := i.cells
        replace BXb := hide (BXb.out.step hb)
        replace BXa := hide (BXa.out.step hb)
        have HF' := hide (HF.out.trans ((hb).mono HF.out.size))
        have T1 := hide (i)
        refine hK _ _ (fun _ => HF'.out) ?_
        clear hK K HF hb i
        have HF := hide HF'.out
        clear HF'
        refine Calm.one (i := 9) (l' := #[true, true, true, true, true, true, true, true, true, true, true, true, false, false]) (by as_aux_lemma => kernel_rfl) rfl rfl rfl fun K hK => ?_
        go_simp
        refine (make_any dn _ xd _ (ND.out.below HF.out) (by have := LD.out; omega)).mono ?_
        rintro e u2 ⟨v, rfl, i, hb⟩
        rw [HN.out] at i
        obtain ⟨sb, mb, lb, cb', rfl, i⟩ := i.cells
        replace T1 := hide (T1.out.below (hb))
        replace BXb := hide (BXb.out.step hb)
        replace BXa := hide (BXa.out.step hb)
        have HF' := hide (HF.out.trans ((hb).mono HF.out.size))
        have T2 := hide (i)
        refine hK _ _ (fun _ => HF'.out) ?_
        clear hK K HF hb i
        have HF := hide HF'.out
        clear HF'
        refine Calm.one (i := 12) (l' := #[true, true, true, true, true, true, true, true, true, true, true, true, true, false]) (by as_aux_lemma => kernel_rfl) rfl rfl rfl fun K hK => ?_
        first | (have LTS := hide (And.intro GEa.out (And.intro GEb.out (Nat.ne_of_lt LTab.out)))) | (have LTS := hide (And.intro GEa.out (And.intro GEb.out (Nat.ne_of_gt LTba.out))))
        have hc0 := BXa.out.cell0
        have hc1 := BXa.out.cell1
        have hf0 := BXa.out.free 0
        have hf1 := BXa.out.free 1
        go_simp
        have HF' := hide (below_put HF.out (show w5.heap.size ≤ ga by have hx := LTS.out; omega) (.bool sa) (.slice ma la ca'))
        replace T1 := hide (T1.out.keep (BXa.out.keeps (by simp) (by simp) (.bool sa) (.slice ma la ca')))
        replace T2 := hide (T2.out.keep (BXa.out.keeps (by simp) (by simp) (.bool sa) (.slice ma la ca')))
        replace BXb := hide (BXb.out.other (C := ga) (by have hx := LTS.out; omega) (.bool sa) (.slice ma la ca'))
        replace BXa := hide (BXa.out.put (.bool sa) (.slice ma la ca'))
        refine hK _ _ (fun _ => HF'.out) ?_
        clear hK K HF hc0 hf0 hc1 hf1
        have HF := hide HF'.out
        clear HF'
        generalize ((u2.setCell ⟨ga, 0, none⟩ (.bool sa)).setCell ⟨ga, 1, none⟩ (.slice ma la ca')) = ws1 at *
        refine Calm.one (i := 13) (l' := #[true, true, true, true, true, true, true, true, true, true, true, true, true, true]) (by as_aux_lemma => kernel_rfl) rfl rfl rfl fun K hK => ?_
        have hc0 := BXb.out.cell0
        have hc1 := BXb.out.cell1
        have hf0 := BXb.out.free 0
        have hf1 := BXb.out.free 1
        go_simp
        have HF' := hide (below_put HF.out (show w5.heap.size ≤ gb by have hx := LTS.out; omega) (.bool sb) (.slice mb lb cb'))
        replace T1 := hide (T1.out.keep (BXb.out.keeps (by simp) (by simp) (.bool sb) (.slice mb lb cb')))
        replace T2 := hide (T2.out.keep (BXb.out.keeps (by simp) (by simp) (.bool sb) (.slice mb lb cb')))
        replace BXa := hide (BXa.out.other (C := gb) (by have hx := LTS.out; omega) (.bool sb) (.slice mb lb cb'))
        replace BXb := hide (BXb.out.put (.bool sb) (.slice mb lb cb'))
        refine hK _ _ (fun _ => HF'.out) ?_
        clear hK K HF hc0 hf0 hc1 hf1
        have HF := hide HF'.out
        clear HF'
        generalize ((ws1.setCell ⟨gb, 0, none⟩ (.bool sb)).setCell ⟨gb, 1, none⟩ (.slice mb lb cb')) = ws2 at *
        refine Calm.done (by as_aux_lemma => kernel_rfl) ?_
        as_aux_lemma =>
          go_wp2
          go_meet
          case rel => exact ⟨ga, gb, sa, ma, la, ca', sb, mb, lb, cb', rfl, rfl, BXa.out, BXb.out, T1.out, T2.out, HF.out⟩
  case rest =>
  obtain ⟨ga, gb, sa, ma, la, ca', sb, mb, lb, cb', rfl, rfl, ba, bb, ia, ib, hb⟩ := hcut
  clear C0 C1 C2 C3 NC ND HM HN LC LD
  replace HB := hide (HB.out.trans ((hb).mono HB.out.size))
  replace XA := hide (XA.out.below (hb))
  replace XC := hide (XC.out.below (hb))
  have VA := hide ba
  have VB := hide bb
  have IM := hide ia
  have IN := hide ib
  clear ba bb ia ib hb
  generalize hwc : wc = w6 at *
  clear hwc
  skip
  go_wp2_with fail
  refine (radd_any _ _ xs ys 300 _ XA.out XC.out HL.out (by have := LX.out; omega) SX.out SY.out (by decide)).mono ?_
  rintro e w7 ⟨bs, rfl, _, hr, hb⟩
  replace HB := hide (HB.out.trans ((hb).mono HB.out.size))
  replace XA := hide (XA.out.below (hb))
  replace XC := hide (XC.out.below (hb))
  replace VA := hide (VA.out.step (hb))
  replace VB := hide (VB.out.step (hb))
  replace IM := hide (IM.out.below (hb))
  replace IN := hide (IN.out.below (hb))
  have XS : Hid (Ints _ (.slice (some ⟨bs, 0, none⟩) xs.length xs.length) (adL xs ys)) := hide (irow_ints hr (by first | exact scL_len _ _ | exact adL_len _ _ | exact cbL_len _ _ _ _ | exact primL_len _) (by have := LX.out; unfold maxLen; omega))
  clear hr hb
  go_upto_region 10 with fail
  refine wp_calm (fun w' => Below w7.heap.size w7 w') (fun _ => true) 12 #[false, false, false, false, false, false, false, false, false, false, false, false] (by as_aux_lemma => kernel_rfl) rfl rfl ?_
  have HF := hide ((Below.refl w7.heap.size w7).drew)
  generalize w7.drew = w7d at *
  refine Calm.take (i := 0) (v := ?_) (a' := ?_) (l' := #[true, false, false, false, false, false, false, false, false, false, false, false]) (d := some 79) rfl (by as_aux_lemma => kernel_rfl) (by as_aux_lemma => kernel_rfl) (by as_aux_lemma => kernel_rfl) (by as_aux_lemma => kernel_rfl) (fun _ _ _ h => h) HF.out rfl ?_ rfl rfl ?_ ?_
  rotate_left
  · intro w' hF; clear hF; go_simp; try rfl
  rotate_left
  · simp only [Act.put]; exact rfl
  refine Calm.take (i := 1) (v := ?_) (a' := ?_) (l' := #[true, true, false, false, false, false, false, false, false, false, false, false]) (d := some 80) rfl (by as_aux_lemma => kernel_rfl) (by as_aux_lemma => kernel_rfl) (by as_aux_lemma => kernel_rfl) (by as_aux_lemma => kernel_rfl) (fun _ _ _ h => h) HF.out rfl ?_ rfl rfl ?_ ?_
  rotate_left
  · intro w' hF; have f00 := (VA.out.step hF).cell0; have f01 := (VA.out.step hF).cell1; clear hF; go_simp; try rfl
  rotate_left
  · simp only [Act.put]; exact rfl
  refine Calm.take (i := 3) (v := ?_) (a' := ?_) (l' := #[true, true, false, true, false, false, false, false, false, false, false, false]) (d := some 82) rfl (by as_aux_lemma => kernel_rfl) (by as_aux_lemma => kernel_rfl) (by as_aux_lemma => kernel_rfl) (by as_aux_lemma => kernel_rfl) (fun _ _ _ h => h) HF.out rfl ?_ rfl rfl ?_ ?_
  rotate_left
  · intro w' hF; clear hF; go_simp; try rfl
  rotate_left
  · simp only [Act.put]; exact rfl
  refine Calm.take (i := 4) (v := ?_) (a' := ?_) (l' := #[true, true, false, true, true, false, false, false, false, false, false, false]) (d := some 83) rfl (by as_aux_lemma => kernel_rfl) (by as_aux_lemma => kernel_rfl) (by as_aux_lemma => kernel_rfl) (by as_aux_lemma => kernel_rfl) (fun _ _ _ h => h) HF.out rfl ?_ rfl rfl ?_ ?_
  rotate_left
  · intro w' hF; have f00 := (VA.out.step hF).cell0; have f01 := (VA.out.step hF).cell1; clear hF; go_simp; try rfl
  rotate_left
  · simp only [Act.put]; exact rfl
  refine Calm.one (i := 2) (l' := #[true, true, true, true, true, false, false, false, false, false, false, false]) (by as_aux_lemma => kernel_rfl) rfl rfl rfl fun K hK => ?_
  go_simp
  refine (rscale_any _ _ xs m 300 _ (XA.out.below HF.out) (IM.out.below HF.out) (by rw [show xs.length = xs.length from by first | rfl | exact HL.out | exact adL_len _ _ | exact primL_len _]; have := LX.out; omega) SX.out SM.out (by decide)).mono ?_
  rintro e y10_0 ⟨bT1, rfl, _, hr, hb⟩
  have i := irow_ints (n := xs.length) hr (by simp) (by rw [show xs.length = xs.length from by first | rfl | exact HL.out | exact adL_len _ _ | exact primL_len _]; have := LX.out; unfold maxLen; omega)
  replace i : Ints _ _ (scL xs m) := i
  have HF' := hide (HF.out.trans ((hb).mono HF.out.size))
  have T1 := hide (i)
  refine hK _ _ (fun _ => HF'.out) ?_
  clear hK K HF hb i hr
  have HF := hide HF'.out
  clear HF'
  refine Calm.one (i := 5) (l' := #[true, true, true, true, true, true, false, false, false, false, false, false]) (by as_aux_lemma => kernel_rfl) rfl rfl rfl fun K hK => ?_
  go_simp
  refine (rscale_any _ _ ys m 300 _ (XC.out.below HF.out) (IM.out.below HF.out) (by rw [show ys.length = xs.length from by first | rfl | exact HL.out | exact adL_len _ _ | exact primL_len _]; have := LX.out; omega) SY.out SM.out (by decide)).mono ?_
  rintro e y10_1 ⟨bT2, rfl, _, hr, hb⟩
  have i := irow_ints (n := ys.length) hr (by simp) (by rw [show ys.length = xs.length from by first | rfl | exact HL.out | exact adL_len _ _ | exact primL_len _]; have := LX.out; unfold maxLen; omega)
  replace i : Ints _ _ (scL ys m) := i
  replace T1 := hide (T1.out.below (hb))
  have HF' := hide (HF.out.trans ((hb).mono HF.out.size))
  have T2 := hide (i)
  refine hK _ _ (fun _ => HF'.out) ?_
  clear hK K HF hb i hr
  have HF := hide HF'.out
  clear HF'
  refine Calm.one (i := 6) (l' := #[true, true, true, true, true, true, true, false, false, false, false, false]) (by as_aux_lemma => kernel_rfl) rfl rfl rfl fun K hK => ?_
  go_simp
  refine (radd_any _ _ (scL xs m) (scL ys m) 600 _ T1.out T2.out (by rw [scL_len, scL_len]; exact HL.out) (by rw [scL_len]; have := LX.out; omega) (SX.out.scale SM.out) (SY.out.scale SM.out) (by decide)).mono ?_
  rintro e y10_2 ⟨bt, rfl, _, hr, hb⟩
  have i := irow_ints (n := (scL xs m).length) hr (by simp) (by rw [scL_len]; have := LX.out; unfold maxLen; omega)
  replace i : Ints _ _ (adL (scL xs m) (scL ys m)) := i
  clear T1
  clear T2
  have HF' := hide (HF.out.trans ((hb).mono HF.out.size))
  have XT := hide (i)
  refine hK _ _ (fun _ => HF'.out) ?_
  clear hK K HF hb i hr
  have HF := hide HF'.out
  clear HF'
  refine Calm.take (i := 7) (v := ?_) (a' := ?_) (l' := #[true, true, true, true, true, true, true, true, false, false, false, false]) (d := some 78) rfl (by as_aux_lemma => kernel_rfl) (by as_aux_lemma => kernel_rfl) (by as_aux_lemma => kernel_rfl) (by as_aux_lemma => kernel_rfl) (fun _ _ _ h => h) HF.out rfl ?_ rfl rfl ?_ ?_
  rotate_left
  · intro w' hF; clear hF; go_simp; try rfl
  rotate_left
  · simp only [Act.put]; exact rfl
  refine Calm.take (i := 8) (v := ?_) (a' := ?_) (l' := #[true, true, true, true, true, true, true, true, true, false, false, false]) (d := some 86) rfl (by as_aux_lemma => kernel_rfl) (by as_aux_lemma => kernel_rfl) (by as_aux_lemma => kernel_rfl) (by as_aux_lemma => kernel_rfl) (fun _ _ _ h => h) HF.out rfl ?_ rfl rfl ?_ ?_
  rotate_left
  · intro w' hF; clear hF; go_simp; try rfl
  rotate_left
  · simp only [Act.put]; exact rfl
  refine Calm.take (i := 9) (v := ?_) (a' := ?_) (l' := #[true, true, true, true, true, true, true, true, true, true, false, false]) (d := some 87) rfl (by as_aux_lemma => kernel_rfl) (by as_aux_lemma => kernel_rfl) (by as_aux_lemma => kernel_rfl) (by as_aux_lemma => kernel_rfl) (fun _ _ _ h => h) HF.out rfl ?_ rfl rfl ?_ ?_
  rotate_left
  · intro w' hF; clear hF; go_simp; try rfl
  rotate_left
  · simp only [Act.put]; exact rfl
  refine Calm.take (i := 10) (v := ?_) (a' := ?_) (l' := #[true, true, true, true, true, true, true, true, true, true, true, false]) (d := some 15) rfl (by as_aux_lemma => kernel_rfl) (by as_aux_lemma => kernel_rfl) (by as_aux_lemma => kernel_rfl) (by as_aux_lemma => kernel_rfl) (fun _ _ _ h => h) HF.out rfl ?_ rfl rfl ?_ ?_
  rotate_left
  · intro w' hF; clear hF; go_simp; try rfl
  rotate_left
  · simp only [Act.put]; exact rfl
  refine Calm.take (i := 11) (v := ?_) (a' := ?_) (l' := #[true, true, true, true, true, true, true, true, true, true, true, true]) (d := some 16) rfl (by as_aux_lemma => kernel_rfl) (by as_aux_lemma => kernel_rfl) (by as_aux_lemma => kernel_rfl) (by as_aux_lemma => kernel_rfl) (fun _ _ _ h => h) HF.out rfl ?_ rfl rfl ?_ ?_
  rotate_left
  · intro w' hF; clear hF; go_simp; try rfl
  rotate_left
  · simp only [Act.put]; exact rfl
  refine Calm.done (by as_aux_lemma => kernel_rfl) ?_
  replace HB := hide (HB.out.trans ((HF.out).mono HB.out.size))
  replace XA := hide (XA.out.below (HF.out))
  replace XC := hide (XC.out.below (HF.out))
  replace VA := hide (VA.out.step (HF.out))
  replace VB := hide (VB.out.step (HF.out))
  replace IM := hide (IM.out.below (HF.out))
  replace IN := hide (IN.out.below (HF.out))
  replace XS := hide (XS.out.below (HF.out))
  clear HF
  have VA0 := VA.out.cell0
  have VA1 := VA.out.cell1
  have VB0 := VB.out.cell0
  have VB1 := VB.out.cell1
  go_wp2_with fail
  refine (rcombine_any _ _ _ _ xs ys m n 300 _ IM.out XA.out IN.out XC.out HL.out (by have := LX.out; omega) SX.out SY.out SM.out SN.out (by decide)).mono ?_
  rintro e w11 ⟨bu, rfl, _, hr, hb⟩
  clear VA0 VA1
  clear VB0 VB1
  replace HB := hide (HB.out.trans ((hb).mono HB.out.size))
  replace XA := hide (XA.out.below (hb))
  replace XC := hide (XC.out.below (hb))
  replace VA := hide (VA.out.step (hb))
  replace VB := hide (VB.out.step (hb))
  replace IM := hide (IM.out.below (hb))
  replace IN := hide (IN.out.below (hb))
  replace XS := hide (XS.out.below (hb))
  replace XT := hide (XT.out.below (hb))
  have XU : Hid (Ints _ (.slice (some ⟨bu, 0, none⟩) xs.length xs.length) (cbL m xs n ys)) := hide (irow_ints hr (by first | exact scL_len _ _ | exact adL_len _ _ | exact cbL_len _ _ _ _ | exact primL_len _) (by have := LX.out; unfold maxLen; omega))
  clear hr hb
  have SU : Hid (SzL 601 (cbL m xs n ys)) := hide ((SzL.comb HL.out SX.out SY.out SM.out SN.out).mono (by decide))
  have SY2 : Hid (SzL 601 ys) := hide (SY.out.mono (by decide))
  go_wp2_with fail
  refine (rdot_any _ _ (cbL m xs n ys) ys 601 2000 _ XU.out XC.out (by first | exact HL.out | (rw [cbL_len]; exact HL.out) | rfl) (by first | (rw [cbL_len]; have := LX.out; omega) | (rw [HL.out]; have := LX.out; omega) | (have := LX.out; omega)) SU.out SY2.out (by decide) (fun i => (dot_sz (n := 300) SU.out SY2.out (by first | (rw [cbL_len]; exact LX.out) | (rw [HL.out]; exact LX.out) | exact LX.out) i).mono (by decide)) ((SU.out.dots SY2.out).mono (by decide)) (by decide)).mono ?_
  rintro e w12 ⟨v, rfl, i, hb⟩
  replace i : IntAt _ _ (dotL (cbL m xs n ys) ys) := i
  obtain ⟨sp, mp, lp, cp, rfl, i⟩ := i.cells
  replace HB := hide (HB.out.trans ((hb).mono HB.out.size))
  replace XA := hide (XA.out.below (hb))
  replace XC := hide (XC.out.below (hb))
  replace VA := hide (VA.out.step (hb))
  replace VB := hide (VB.out.step (hb))
  replace IM := hide (IM.out.below (hb))
  replace IN := hide (IN.out.below (hb))
  replace XS := hide (XS.out.below (hb))
  replace XT := hide (XT.out.below (hb))
  replace XU := hide (XU.out.below (hb))
  have IP := hide i
  clear i hb
  go_upto_region 13 with fail
  have hb := below_alloc w12 (.cells #[.bool sp, .slice mp lp cp] 36)
  replace HB := hide (HB.out.trans ((hb).mono HB.out.size))
  replace XA := hide (XA.out.below (hb))
  replace XC := hide (XC.out.below (hb))
  replace VA := hide (VA.out.step (hb))
  replace VB := hide (VB.out.step (hb))
  replace IM := hide (IM.out.below (hb))
  replace IN := hide (IN.out.below (hb))
  replace XS := hide (XS.out.below (hb))
  replace XT := hide (XT.out.below (hb))
  replace XU := hide (XU.out.below (hb))
  replace IP := hide (IP.out.below (hb))
  clear hb
  have VP := hide (Box.new w12 (.bool sp) (.slice mp lp cp))
  generalize w12.alloc (.cells #[.bool sp, .slice mp lp cp] 36) = w12v at *
  generalize w12.heap.size = gp at *
  clear XU
  go_wp2_with fail
  refine (rdot_any _ _ xs ys 300 2000 _ XA.out XC.out (by first | exact HL.out | (rw [cbL_len]; exact HL.out) | rfl) (by first | (rw [cbL_len]; have := LX.out; omega) | (rw [HL.out]; have := LX.out; omega) | (have := LX.out; omega)) SX.out SY.out (by decide) (fun i => (dot_sz (n := 300) SX.out SY.out (by first | (rw [cbL_len]; exact LX.out) | (rw [HL.out]; exact LX.out) | exact LX.out) i).mono (by decide)) ((SX.out.dots SY.out).mono (by decide)) (by decide)).mono ?_
  rintro e w13 ⟨v, rfl, i, hb⟩
  replace i : IntAt _ _ (dotL xs ys) := i
  obtain ⟨sq, mq, lq, cq, rfl, i⟩ := i.cells
  replace HB := hide (HB.out.trans ((hb).mono HB.out.size))
  replace XA := hide (XA.out.below (hb))
  replace XC := hide (XC.out.below (hb))
  replace VA := hide (VA.out.step (hb))
  replace VB := hide (VB.out.step (hb))
  replace IM := hide (IM.out.below (hb))
  replace IN := hide (IN.out.below (hb))
  replace XS := hide (XS.out.below (hb))
  replace XT := hide (XT.out.below (hb))
  replace IP := hide (IP.out.below (hb))
  replace VP := hide (VP.out.step (hb))
  have IQ := hide i
  clear i hb
  go_upto_region 14 with fail
  have hb := below_alloc w13 (.cells #[.bool sq, .slice mq lq cq] 36)
  replace HB := hide (HB.out.trans ((hb).mono HB.out.size))
  replace XA := hide (XA.out.below (hb))
  replace XC := hide (XC.out.below (hb))
  replace VA := hide (VA.out.step (hb))
  replace VB := hide (VB.out.step (hb))
  replace IM := hide (IM.out.below (hb))
  replace IN := hide (IN.out.below (hb))
  replace XS := hide (XS.out.below (hb))
  replace XT := hide (XT.out.below (hb))
  replace IP := hide (IP.out.below (hb))
  replace VP := hide (VP.out.step (hb))
  replace IQ := hide (IQ.out.below (hb))
  clear hb
  have VQ := hide (Box.new w13 (.bool sq) (.slice mq lq cq))
  generalize w13.alloc (.cells #[.bool sq, .slice mq lq cq] 36) = w13v at *
  generalize w13.heap.size = gq at *
  go_wp2_with fail
  refine (rdot_any _ _ ys ys 300 2000 _ XC.out XC.out (by first | exact HL.out | (rw [cbL_len]; exact HL.out) | rfl) (by first | (rw [cbL_len]; have := LX.out; omega) | (rw [HL.out]; have := LX.out; omega) | (have := LX.out; omega)) SY.out SY.out (by decide) (fun i => (dot_sz (n := 300) SY.out SY.out (by first | (rw [cbL_len]; exact LX.out) | (rw [HL.out]; exact LX.out) | exact LX.out) i).mono (by decide)) ((SY.out.dots SY.out).mono (by decide)) (by decide)).mono ?_
  rintro e w14 ⟨v, rfl, i, hb⟩
  replace i : IntAt _ _ (dotL ys ys) := i
  obtain ⟨sr, mr, lr, cr, rfl, i⟩ := i.cells
  replace HB := hide (HB.out.trans ((hb).mono HB.out.size))
  replace XA := hide (XA.out.below (hb))
  replace XC := hide (XC.out.below (hb))
  replace VA := hide (VA.out.step (hb))
  replace VB := hide (VB.out.step (hb))
  replace IM := hide (IM.out.below (hb))
  replace IN := hide (IN.out.below (hb))
  replace XS := hide (XS.out.below (hb))
  replace XT := hide (XT.out.below (hb))
  replace IP := hide (IP.out.below (hb))
  replace VP := hide (VP.out.step (hb))
  replace IQ := hide (IQ.out.below (hb))
  replace VQ := hide (VQ.out.step (hb))
  have IR := hide i
  clear i hb
  go_upto_region 15 with fail
  have hb := below_alloc w14 (.cells #[.bool sr, .slice mr lr cr] 36)
  replace HB := hide (HB.out.trans ((hb).mono HB.out.size))
  replace XA := hide (XA.out.below (hb))
  replace XC := hide (XC.out.below (hb))
  replace VA := hide (VA.out.step (hb))
  replace VB := hide (VB.out.step (hb))
  replace IM := hide (IM.out.below (hb))
  replace IN := hide (IN.out.below (hb))
  replace XS := hide (XS.out.below (hb))
  replace XT := hide (XT.out.below (hb))
  replace IP := hide (IP.out.below (hb))
  replace VP := hide (VP.out.step (hb))
  replace IQ := hide (IQ.out.below (hb))
  replace VQ := hide (VQ.out.step (hb))
  replace IR := hide (IR.out.below (hb))
  clear hb
  have VR := hide (Box.new w14 (.bool sr) (.slice mr lr cr))
  generalize w14.alloc (.cells #[.bool sr, .slice mr lr cr] 36) = w14v at *
  generalize w14.heap.size = gr at *
  go_wp2_with fail
  refine (rlive_any _).mono ?_
  rintro e w15 ⟨rfl, hb⟩
  replace HB := hide (HB.out.trans ((hb).mono HB.out.size))
  replace XA := hide (XA.out.below (hb))
  replace XC := hide (XC.out.below (hb))
  replace VA := hide (VA.out.step (hb))
  replace VB := hide (VB.out.step (hb))
  replace IM := hide (IM.out.below (hb))
  replace IN := hide (IN.out.below (hb))
  replace XS := hide (XS.out.below (hb))
  replace XT := hide (XT.out.below (hb))
  replace IP := hide (IP.out.below (hb))
  replace VP := hide (VP.out.step (hb))
  replace IQ := hide (IQ.out.below (hb))
  replace VQ := hide (VQ.out.step (hb))
  replace IR := hide (IR.out.below (hb))
  replace VR := hide (VR.out.step (hb))
  clear hb
  go_wp2_with fail
  refine (prim_any _ xs 300 _ XA.out (by have := LX.out; omega) SX.out (by decide)).mono ?_
  rintro e w17 ⟨bv, v, rfl, _, hr, i, hb⟩
  obtain ⟨sg', mg, lg, cg, rfl, i⟩ := i.cells
  replace HB := hide (HB.out.trans ((hb).mono HB.out.size))
  replace XA := hide (XA.out.below (hb))
  replace XC := hide (XC.out.below (hb))
  replace VA := hide (VA.out.step (hb))
  replace VB := hide (VB.out.step (hb))
  replace IM := hide (IM.out.below (hb))
  replace IN := hide (IN.out.below (hb))
  replace XS := hide (XS.out.below (hb))
  replace XT := hide (XT.out.below (hb))
  replace IP := hide (IP.out.below (hb))
  replace VP := hide (VP.out.step (hb))
  replace IQ := hide (IQ.out.below (hb))
  replace VQ := hide (VQ.out.step (hb))
  replace IR := hide (IR.out.below (hb))
  replace VR := hide (VR.out.step (hb))
  have XV : Hid (Ints _ (.slice (some ⟨bv, 0, none⟩) xs.length xs.length) (primL xs)) := hide (irow_ints hr (by first | exact scL_len _ _ | exact adL_len _ _ | exact cbL_len _ _ _ _ | exact primL_len _) (by have := LX.out; unfold maxLen; omega))
  have IG := hide i
  clear hr i hb
  go_upto_region 18 with fail
  have hb := below_alloc w17 (.cells #[.bool sg', .slice mg lg cg] 36)
  replace HB := hide (HB.out.trans ((hb).mono HB.out.size))
  replace XA := hide (XA.out.below (hb))
  replace XC := hide (XC.out.below (hb))
  replace VA := hide (VA.out.step (hb))
  replace VB := hide (VB.out.step (hb))
  replace IM := hide (IM.out.below (hb))
  replace IN := hide (IN.out.below (hb))
  replace XS := hide (XS.out.below (hb))
  replace XT := hide (XT.out.below (hb))
  replace IP := hide (IP.out.below (hb))
  replace VP := hide (VP.out.step (hb))
  replace IQ := hide (IQ.out.below (hb))
  replace VQ := hide (VQ.out.step (hb))
  replace IR := hide (IR.out.below (hb))
  replace VR := hide (VR.out.step (hb))
  replace XV := hide (XV.out.below (hb))
  replace IG := hide (IG.out.below (hb))
  clear hb
  have VG := hide (Box.new w17 (.bool sg') (.slice mg lg cg))
  generalize w17.alloc (.cells #[.bool sg', .slice mg lg cg] 36) = w17v at *
  generalize w17.heap.size = gg at *
  go_wp2_with fail
  refine (content_any _ (primL xs) 300 _ XV.out (prim_sz SX.out) (by decide)).mono ?_
  rintro e w18 ⟨v, rfl, i, hb⟩
  obtain ⟨so, mo, lo, co, rfl, i⟩ := i.cells
  replace HB := hide (HB.out.trans ((hb).mono HB.out.size))
  replace XA := hide (XA.out.below (hb))
  replace XC := hide (XC.out.below (hb))
  replace VA := hide (VA.out.step (hb))
  replace VB := hide (VB.out.step (hb))
  replace IM := hide (IM.out.below (hb))
  replace IN := hide (IN.out.below (hb))
  replace XS := hide (XS.out.below (hb))
  replace XT := hide (XT.out.below (hb))
  replace IP := hide (IP.out.below (hb))
  replace VP := hide (VP.out.step (hb))
  replace IQ := hide (IQ.out.below (hb))
  replace VQ := hide (VQ.out.step (hb))
  replace IR := hide (IR.out.below (hb))
  replace VR := hide (VR.out.step (hb))
  replace XV := hide (XV.out.below (hb))
  replace IG := hide (IG.out.below (hb))
  replace VG := hide (VG.out.step (hb))
  have IhO := hide i
  clear i hb
  go_upto_region 19 with fail
  have hb := below_alloc w18 (.cells #[.bool so, .slice mo lo co] 36)
  replace HB := hide (HB.out.trans ((hb).mono HB.out.size))
  replace XA := hide (XA.out.below (hb))
  replace XC := hide (XC.out.below (hb))
  replace VA := hide (VA.out.step (hb))
  replace VB := hide (VB.out.step (hb))
  replace IM := hide (IM.out.below (hb))
  replace IN := hide (IN.out.below (hb))
  replace XS := hide (XS.out.below (hb))
  replace XT := hide (XT.out.below (hb))
  replace IP := hide (IP.out.below (hb))
  replace VP := hide (VP.out.step (hb))
  replace IQ := hide (IQ.out.below (hb))
  replace VQ := hide (VQ.out.step (hb))
  replace IR := hide (IR.out.below (hb))
  replace VR := hide (VR.out.step (hb))
  replace XV := hide (XV.out.below (hb))
  replace IG := hide (IG.out.below (hb))
  replace VG := hide (VG.out.step (hb))
  replace IhO := hide (IhO.out.below (hb))
  clear hb
  have VO := hide (Box.new w18 (.bool so) (.slice mo lo co))
  generalize w18.alloc (.cells #[.bool so, .slice mo lo co] 36) = w18v at *
  generalize w18.heap.size = go at *
  have SV := hide (prim_sz SX.out)
  have SG := hide (contS_sz SX.out)
  have SQ : Hid (SzI 900 (dotL xs ys)) := hide ((dotL_sz SX.out SY.out LX.out).mono (by decide))
  have SR : Hid (SzI 900 (dotL ys ys)) := hide ((dotL_sz SY.out SY.out (by rw [HL.out]; exact LX.out)).mono (by decide))
  have SC : Hid (SzI 300 (gcdTo xs xs.length : Int)) := hide (gcdTo_sz SX.out _)
  have HCP := hide (cont_prim xs)
  have HSG : Hid (sgnI (gcdTo (primL xs) (primL xs).length : Int) = sgnI (gcdTo xs xs.length : Int)) := hide (by rw [cont_prim]; split; (next h => rw [h]); (next h => unfold sgnI; rw [if_neg (by omega), if_neg (by omega), if_neg (by omega), if_neg (by omega)]))
  have HLE : Hid (cmpZ (gcdTo (primL xs) (primL xs).length : Int) 1 ≤ 0) := hide (by rw [cont_prim]; split <;> decide)
  skip
  refine wp_calm (fun w' => Below w18v.heap.size w18v w') (fun _ => true) 60 #[false, false, false, false, false, false, false, false, false, false, false, false, false, false, false, false, false, false, false, false, false, false, false, false, false, false, false, false, false, false, false, false, false, false, false, false, false, false, false, false, false, false, false, false, false, false, false, false, false, false, false, false, false, false, false, false, false, false, false, false] (by as_aux_lemma => kernel_rfl) rfl rfl ?_
  have HF := hide ((Below.refl w18v.heap.size w18v).drew)
  generalize w18v.drew = w18vd at *
  refine Calm.take (i := 0) (v := ?_) (a' := ?_) (l' := #[true, false, false, false, false, false, false, false, false, false, false, false, false, false, false, false, false, false, false, false, false, false, false, false, false, false, false, false, false, false, false, false, false, false, false, false, false, false, false, false, false, false, false, false, false, false, false, false, false, false, false, false, false, false, false, false, false, false, false, false]) (d := some 147) rfl (by as_aux_lemma => kernel_rfl) (by as_aux_lemma => kernel_rfl) (by as_aux_lemma => kernel_rfl) (by as_aux_lemma => kernel_rfl) (fun _ _ _ h => h) HF.out rfl ?_ rfl rfl ?_ ?_
  rotate_left
  · intro w' hF; clear hF; go_simp; try rfl
  rotate_left
  · simp only [Act.put]; exact rfl
  refine Calm.take (i := 1) (v := ?_) (a' := ?_) (l' := #[true, true, false, false, false, false, false, false, false, false, false, false, false, false, false, false, false, false, false, false, false, false, false, false, false, false, false, false, false, false, false, false, false, false, false, false, false, false, false, false, false, false, false, false, false, false, false, false, false, false, false, false, false, false, false, false, false, false, false, false]) (d := some 148) rfl (by as_aux_lemma => kernel_rfl) (by as_aux_lemma => kernel_rfl) (by as_aux_lemma => kernel_rfl) (by as_aux_lemma => kernel_rfl) (fun _ _ _ h => h) HF.out rfl ?_ rfl rfl ?_ ?_
  rotate_left
  · intro w' hF; have f00 := (VA.out.step hF).cell0; have f01 := (VA.out.step hF).cell1; have f10 := (VB.out.step hF).cell0; have f11 := (VB.out.step hF).cell1; have f20 := (VP.out.step hF).cell0; have f21 := (VP.out.step hF).cell1; have f30 := (VQ.out.step hF).cell0; have f31 := (VQ.out.step hF).cell1; have f40 := (VR.out.step hF).cell0; have f41 := (VR.out.step hF).cell1; have f50 := (VG.out.step hF).cell0; have f51 := (VG.out.step hF).cell1; have f60 := (VO.out.step hF).cell0; have f61 := (VO.out.step hF).cell1; clear hF; go_simp; try rfl
  rotate_left
  · simp only [Act.put]; exact rfl
  refine Calm.take (i := 3) (v := ?_) (a' := ?_) (l' := #[true, true, false, true, false, false, false, false, false, false, false, false, false, false, false, false, false, false, false, false, false, false, false, false, false, false, false, false, false, false, false, false, false, false, false, false, false, false, false, false, false, false, false, false, false, false, false, false, false, false, false, false, false, false, false, false, false, false, false, false]) (d := some 150) rfl (by as_aux_lemma => kernel_rfl) (by as_aux_lemma => kernel_rfl) (by as_aux_lemma => kernel_rfl) (by as_aux_lemma => kernel_rfl) (fun _ _ _ h => h) HF.out rfl ?_ rfl rfl ?_ ?_
  rotate_left
  · intro w' hF; clear hF; go_simp; try rfl
  rotate_left
  · simp only [Act.put]; exact rfl
  refine Calm.one (i := 2) (l' := #[true, true, true, true, false, false, false, false, false, false, false, false, false, false, false, false, false, false, false, false, false, false, false, false, false, false, false, false, false, false, false, false, false, false, false, false, false, false, false, false, false, false, false, false, false, false, false, false, false, false, false, false, false, false, false, false, false, false, false, false]) (by as_aux_lemma => kernel_rfl) rfl rfl rfl fun K hK => ?_
  go_simp
  refine (rscale_any _ _ (adL xs ys) m 301 _ (XS.out.below HF.out) (IM.out.below HF.out) (by rw [show (adL xs ys).length = xs.length from by first | rfl | exact HL.out | exact adL_len _ _ | exact primL_len _]; have := LX.out; omega) (SzL.add HL.out SX.out SY.out) (SM.out.mono (by decide)) (by decide)).mono ?_
  rintro e y19_0 ⟨bT1, rfl, _, hr, hb⟩
  have i := irow_ints (n := (adL xs ys).length) hr (by simp) (by rw [show (adL xs ys).length = xs.length from by first | rfl | exact HL.out | exact adL_len _ _ | exact primL_len _]; have := LX.out; unfold maxLen; omega)
  replace i : Ints _ _ (scL (adL xs ys) m) := i
  have HF' := hide (HF.out.trans ((hb).mono HF.out.size))
  have T1 := hide (i)
  refine hK _ _ (fun _ => HF'.out) ?_
  clear hK K HF hb i hr
  have HF := hide HF'.out
  clear HF'
  refine Calm.one (i := 4) (l' := #[true, true, true, true, true, false, false, false, false, false, false, false, false, false, false, false, false, false, false, false, false, false, false, false, false, false, false, false, false, false, false, false, false, false, false, false, false, false, false, false, false, false, false, false, false, false, false, false, false, false, false, false, false, false, false, false, false, false, false, false]) (by as_aux_lemma => kernel_rfl) rfl rfl rfl fun K hK => ?_
  go_simp
  refine (rsameL_any _ _ (scL (adL xs ys) m) (adL (scL xs m) (scL ys m)) _ T1.out (XT.out.below HF.out)).mono ?_
  rintro e y19_1 ⟨rfl, hb⟩
  rw [rowCmp_self (scale_add HL.out m)]
  clear T1
  have HF' := hide (HF.out.trans ((hb).mono HF.out.size))
  refine hK _ _ (fun _ => HF'.out) ?_
  clear hK K HF hb
  have HF := hide HF'.out
  clear HF'
  refine Calm.take (i := 5) (v := ?_) (a' := ?_) (l' := #[true, true, true, true, true, true, false, false, false, false, false, false, false, false, false, false, false, false, false, false, false, false, false, false, false, false, false, false, false, false, false, false, false, false, false, false, false, false, false, false, false, false, false, false, false, false, false, false, false, false, false, false, false, false, false, false, false, false, false, false]) (d := some 152) rfl (by as_aux_lemma => kernel_rfl) (by as_aux_lemma => kernel_rfl) (by as_aux_lemma => kernel_rfl) (by as_aux_lemma => kernel_rfl) (fun _ _ _ h => h) HF.out rfl ?_ rfl rfl ?_ ?_
  rotate_left
  · intro w' hF; clear hF; go_simp; try rfl
  rotate_left
  · simp only [Act.put]; exact rfl
  refine Calm.take (i := 6) (v := ?_) (a' := ?_) (l' := #[true, true, true, true, true, true, true, false, false, false, false, false, false, false, false, false, false, false, false, false, false, false, false, false, false, false, false, false, false, false, false, false, false, false, false, false, false, false, false, false, false, false, false, false, false, false, false, false, false, false, false, false, false, false, false, false, false, false, false, false]) (d := some 153) rfl (by as_aux_lemma => kernel_rfl) (by as_aux_lemma => kernel_rfl) (by as_aux_lemma => kernel_rfl) (by as_aux_lemma => kernel_rfl) (fun _ _ _ h => h) HF.out (by as_aux_lemma => kernel_rfl) ?_ rfl rfl ?_ ?_
  rotate_left
  · intro w' hF; have f00 := (VA.out.step hF).cell0; have f01 := (VA.out.step hF).cell1; have f10 := (VB.out.step hF).cell0; have f11 := (VB.out.step hF).cell1; have f20 := (VP.out.step hF).cell0; have f21 := (VP.out.step hF).cell1; have f30 := (VQ.out.step hF).cell0; have f31 := (VQ.out.step hF).cell1; have f40 := (VR.out.step hF).cell0; have f41 := (VR.out.step hF).cell1; have f50 := (VG.out.step hF).cell0; have f51 := (VG.out.step hF).cell1; have f60 := (VO.out.step hF).cell0; have f61 := (VO.out.step hF).cell1; clear hF; go_simp; try rfl
  rotate_left
  · simp only [Act.put]; exact rfl
  refine Calm.take (i := 7) (v := ?_) (a' := ?_) (l' := #[true, true, true, true, true, true, true, true, false, false, false, false, false, false, false, false, false, false, false, false, false, false, false, false, false, false, false, false, false, false, false, false, false, false, false, false, false, false, false, false, false, false, false, false, false, false, false, false, false, false, false, false, false, false, false, false, false, false, false, false]) (d := some 154) rfl (by as_aux_lemma => kernel_rfl) (by as_aux_lemma => kernel_rfl) (by as_aux_lemma => kernel_rfl) (by as_aux_lemma => kernel_rfl) (fun _ _ _ h => h) HF.out (by as_aux_lemma => kernel_rfl) ?_ rfl rfl ?_ ?_
  rotate_left
  · intro w' hF; have f00 := (VA.out.step hF).cell0; have f01 := (VA.out.step hF).cell1; have f10 := (VB.out.step hF).cell0; have f11 := (VB.out.step hF).cell1; have f20 := (VP.out.step hF).cell0; have f21 := (VP.out.step hF).cell1; have f30 := (VQ.out.step hF).cell0; have f31 := (VQ.out.step hF).cell1; have f40 := (VR.out.step hF).cell0; have f41 := (VR.out.step hF).cell1; have f50 := (VG.out.step hF).cell0; have f51 := (VG.out.step hF).cell1; have f60 := (VO.out.step hF).cell0; have f61 := (VO.out.step hF).cell1; clear hF; go_simp; try rfl
  rotate_left
  · simp only [Act.put]; exact rfl
  refine Calm.take (i := 8) (v := ?_) (a' := ?_) (l' := #[true, true, true, true, true, true, true, true, true, false, false, false, false, false, false, false, false, false, false, false, false, false, false, false, false, false, false, false, false, false, false, false, false, false, false, false, false, false, false, false, false, false, false, false, false, false, false, false, false, false, false, false, false, false, false, false, false, false, false, false]) (d := some 155) rfl (by as_aux_lemma => kernel_rfl) (by as_aux_lemma => kernel_rfl) (by as_aux_lemma => kernel_rfl) (by as_aux_lemma => kernel_rfl) (fun _ _ _ h => h) HF.out (by as_aux_lemma => kernel_rfl) ?_ rfl rfl ?_ ?_
  rotate_left
  · intro w' hF; have f00 := (VA.out.step hF).cell0; have f01 := (VA.out.step hF).cell1; have f10 := (VB.out.step hF).cell0; have f11 := (VB.out.step hF).cell1; have f20 := (VP.out.step hF).cell0; have f21 := (VP.out.step hF).cell1; have f30 := (VQ.out.step hF).cell0; have f31 := (VQ.out.step hF).cell1; have f40 := (VR.out.step hF).cell0; have f41 := (VR.out.step hF).cell1; have f50 := (VG.out.step hF).cell0; have f51 := (VG.out.step hF).cell1; have f60 := (VO.out.step hF).cell0; have f61 := (VO.out.step hF).cell1; clear hF; go_simp; try rfl
  rotate_left
  · simp only [Act.put]; exact rfl
  refine Calm.take (i := 10) (v := ?_) (a' := ?_) (l' := #[true, true, true, true, true, true, true, true, true, false, true, false, false, false, false, false, false, false, false, false, false, false, false, false, false, false, false, false, false, false, false, false, false, false, false, false, false, false, false, false, false, false, false, false, false, false, false, false, false, false, false, false, false, false, false, false, false, false, false, false]) (d := some 157) rfl (by as_aux_lemma => kernel_rfl) (by as_aux_lemma => kernel_rfl) (by as_aux_lemma => kernel_rfl) (by as_aux_lemma => kernel_rfl) (fun _ _ _ h => h) HF.out (by as_aux_lemma => kernel_rfl) ?_ rfl rfl ?_ ?_
  rotate_left
  · intro w' hF; have f00 := (VA.out.step hF).cell0; have f01 := (VA.out.step hF).cell1; have f10 := (VB.out.step hF).cell0; have f11 := (VB.out.step hF).cell1; have f20 := (VP.out.step hF).cell0; have f21 := (VP.out.step hF).cell1; have f30 := (VQ.out.step hF).cell0; have f31 := (VQ.out.step hF).cell1; have f40 := (VR.out.step hF).cell0; have f41 := (VR.out.step hF).cell1; have f50 := (VG.out.step hF).cell0; have f51 := (VG.out.step hF).cell1; have f60 := (VO.out.step hF).cell0; have f61 := (VO.out.step hF).cell1; clear hF; go_simp; try rfl
  rotate_left
  · simp only [Act.put]; exact rfl
  refine Calm.take (i := 11) (v := ?_) (a' := ?_) (l' := #[true, true, true, true, true, true, true, true, true, false, true, true, false, false, false, false, false, false, false, false, false, false, false, false, false, false, false, false, false, false, false, false, false, false, false, false, false, false, false, false, false, false, false, false, false, false, false, false, false, false, false, false, false, false, false, false, false, false, false, false]) (d := some 158) rfl (by as_aux_lemma => kernel_rfl) (by as_aux_lemma => kernel_rfl) (by as_aux_lemma => kernel_rfl) (by as_aux_lemma => kernel_rfl) (fun _ _ _ h => h) HF.out (by as_aux_lemma => kernel_rfl) ?_ rfl rfl ?_ ?_
  rotate_left
  · intro w' hF; have f00 := (VA.out.step hF).cell0; have f01 := (VA.out.step hF).cell1; have f10 := (VB.out.step hF).cell0; have f11 := (VB.out.step hF).cell1; have f20 := (VP.out.step hF).cell0; have f21 := (VP.out.step hF).cell1; have f30 := (VQ.out.step hF).cell0; have f31 := (VQ.out.step hF).cell1; have f40 := (VR.out.step hF).cell0; have f41 := (VR.out.step hF).cell1; have f50 := (VG.out.step hF).cell0; have f51 := (VG.out.step hF).cell1; have f60 := (VO.out.step hF).cell0; have f61 := (VO.out.step hF).cell1; clear hF; go_simp; try rfl
  rotate_left
  · simp only [Act.put]; exact rfl
  refine Calm.one (i := 9) (l' := #[true, true, true, true, true, true, true, true, true, true, true, true, false, false, false, false, false, false, false, false, false, false, false, false, false, false, false, false, false, false, false, false, false, false, false, false, false, false, false, false, false, false, false, false, false, false, false, false, false, false, false, false, false, false, false, false, false, false, false, false]) (by as_aux_lemma => kernel_rfl) rfl (by as_aux_lemma => kernel_rfl) rfl fun K hK => ?_
  go_simp
  refine (imul_any _ _ m (dotL xs ys) _ (IM.out.below HF.out) (IQ.out.below HF.out) (SzI.len SM.out (by decide)) (SzI.len SQ.out (by decide))).mono ?_
  rintro e y19_2 ⟨v, rfl, i, hb⟩
  have HF' := hide (HF.out.trans ((hb).mono HF.out.size))
  have T2 := hide (i)
  refine hK _ _ (fun _ => HF'.out) ?_
  clear hK K HF hb i
  have HF := hide HF'.out
  clear HF'
  refine Calm.one (i := 12) (l' := #[true, true, true, true, true, true, true, true, true, true, true, true, true, false, false, false, false, false, false, false, false, false, false, false, false, false, false, false, false, false, false, false, false, false, false, false, false, false, false, false, false, false, false, false, false, false, false, false, false, false, false, false, false, false, false, false, false, false, false, false]) (by as_aux_lemma => kernel_rfl) rfl (by as_aux_lemma => kernel_rfl) rfl fun K hK => ?_
  go_simp
  refine (imul_any _ _ n (dotL ys ys) _ (IN.out.below HF.out) (IR.out.below HF.out) (SzI.len SN.out (by decide)) (SzI.len SR.out (by decide))).mono ?_
  rintro e y19_3 ⟨v, rfl, i, hb⟩
  replace T2 := hide (T2.out.below (hb))
  have HF' := hide (HF.out.trans ((hb).mono HF.out.size))
  have T3 := hide (i)
  refine hK _ _ (fun _ => HF'.out) ?_
  clear hK K HF hb i
  have HF := hide HF'.out
  clear HF'
  refine Calm.one (i := 13) (l' := #[true, true, true, true, true, true, true, true, true, true, true, true, true, true, false, false, false, false, false, false, false, false, false, false, false, false, false, false, false, false, false, false, false, false, false, false, false, false, false, false, false, false, false, false, false, false, false, false, false, false, false, false, false, false, false, false, false, false, false, false]) (by as_aux_lemma => kernel_rfl) rfl (by as_aux_lemma => kernel_rfl) rfl fun K hK => ?_
  go_simp
  refine (iadd_any _ _ (m * dotL xs ys) (n * dotL ys ys) _ T2.out T3.out (SzI.len (SM.out.mul SQ.out) (by decide)) (SzI.len (SN.out.mul SR.out) (by decide))).mono ?_
  rintro e y19_4 ⟨v, rfl, i, hb⟩
  clear T2
  clear T3
  have HF' := hide (HF.out.trans ((hb).mono HF.out.size))
  have T4 := hide (i)
  refine hK _ _ (fun _ => HF'.out) ?_
  clear hK K HF hb i
  have HF := hide HF'.out
  clear HF'
  refine Calm.one (i := 14) (l' := #[true, true, true, true, true, true, true, true, true, true, true, true, true, true, true, false, false, false, false, false, false, false, false, false, false, false, false, false, false, false, false, false, false, false, false, false, false, false, false, false, false, false, false, false, false, false, false, false, false, false, false, false, false, false, false, false, false, false, false, false]) (by as_aux_lemma => kernel_rfl) rfl (by as_aux_lemma => kernel_rfl) rfl fun K hK => ?_
  go_simp
  refine (icmp_same _ _ (dotL (cbL m xs n ys) ys) (m * dotL xs ys + n * dotL ys ys) _ (IP.out.below HF.out) T4.out (dot_comb HL.out m n)).mono ?_
  rintro e y19_5 ⟨rfl, hb⟩
  clear T4
  have HF' := hide (HF.out.trans ((hb).mono HF.out.size))
  refine hK _ _ (fun _ => HF'.out) ?_
  clear hK K HF hb
  have HF := hide HF'.out
  clear HF'
  refine Calm.take (i := 15) (v := ?_) (a' := ?_) (l' := #[true, true, true, true, true, true, true, true, true, true, true, true, true, true, true, true, false, false, false, false, false, false, false, false, false, false, false, false, false, false, false, false, false, false, false, false, false, false, false, false, false, false, false, false, false, false, false, false, false, false, false, false, false, false, false, false, false, false, false, false]) (d := some 162) rfl (by as_aux_lemma => kernel_rfl) (by as_aux_lemma => kernel_rfl) (by as_aux_lemma => kernel_rfl) (by as_aux_lemma => kernel_rfl) (fun _ _ _ h => h) HF.out (by as_aux_lemma => kernel_rfl) ?_ rfl rfl ?_ ?_
  rotate_left
  · intro w' hF; clear hF; go_simp; try rfl
  rotate_left
  · simp only [Act.put]; exact rfl
  refine Calm.take (i := 16) (v := ?_) (a' := ?_) (l' := #[true, true, true, true, true, true, true, true, true, true, true, true, true, true, true, true, true, false, false, false, false, false, false, false, false, false, false, false, false, false, false, false, false, false, false, false, false, false, false, false, false, false, false, false, false, false, false, false, false, false, false, false, false, false, false, false, false, false, false, false]) (d := some 163) rfl (by as_aux_lemma => kernel_rfl) (by as_aux_lemma => kernel_rfl) (by as_aux_lemma => kernel_rfl) (by as_aux_lemma => kernel_rfl) (fun _ _ _ h => h) HF.out rfl ?_ rfl rfl ?_ ?_
  rotate_left
  · intro w' hF; clear hF; go_simp; try rfl
  rotate_left
  · simp only [Act.put]; exact rfl
  refine Calm.take (i := 17) (v := ?_) (a' := ?_) (l' := #[true, true, true, true, true, true, true, true, true, true, true, true, true, true, true, true, true, true, false, false, false, false, false, false, false, false, false, false, false, false, false, false, false, false, false, false, false, false, false, false, false, false, false, false, false, false, false, false, false, false, false, false, false, false, false, false, false, false, false, false]) (d := some 164) rfl (by as_aux_lemma => kernel_rfl) (by as_aux_lemma => kernel_rfl) (by as_aux_lemma => kernel_rfl) (by as_aux_lemma => kernel_rfl) (fun _ _ _ h => h) HF.out rfl ?_ rfl rfl ?_ ?_
  rotate_left
  · intro w' hF; clear hF; go_simp; try rfl
  rotate_left
  · simp only [Act.put]; exact rfl
  refine Calm.take (i := 18) (v := ?_) (a' := ?_) (l' := #[true, true, true, true, true, true, true, true, true, true, true, true, true, true, true, true, true, true, true, false, false, false, false, false, false, false, false, false, false, false, false, false, false, false, false, false, false, false, false, false, false, false, false, false, false, false, false, false, false, false, false, false, false, false, false, false, false, false, false, false]) (d := some 165) rfl (by as_aux_lemma => kernel_rfl) (by as_aux_lemma => kernel_rfl) (by as_aux_lemma => kernel_rfl) (by as_aux_lemma => kernel_rfl) (fun _ _ _ h => h) HF.out (by as_aux_lemma => kernel_rfl) ?_ rfl rfl ?_ ?_
  rotate_left
  · intro w' hF; clear hF; go_simp; try rfl
  rotate_left
  · simp only [Act.put]; exact rfl
  refine Calm.take (i := 19) (v := ?_) (a' := ?_) (l' := #[true, true, true, true, true, true, true, true, true, true, true, true, true, true, true, true, true, true, true, true, false, false, false, false, false, false, false, false, false, false, false, false, false, false, false, false, false, false, false, false, false, false, false, false, false, false, false, false, false, false, false, false, false, false, false, false, false, false, false, false]) (d := some 166) rfl (by as_aux_lemma => kernel_rfl) (by as_aux_lemma => kernel_rfl) (by as_aux_lemma => kernel_rfl) (by as_aux_lemma => kernel_rfl) (fun _ _ _ h => h) HF.out (by as_aux_lemma => kernel_rfl) ?_ rfl rfl ?_ ?_
  rotate_left
  · intro w' hF; have f00 := (VA.out.step hF).cell0; have f01 := (VA.out.step hF).cell1; have f10 := (VB.out.step hF).cell0; have f11 := (VB.out.step hF).cell1; have f20 := (VP.out.step hF).cell0; have f21 := (VP.out.step hF).cell1; have f30 := (VQ.out.step hF).cell0; have f31 := (VQ.out.step hF).cell1; have f40 := (VR.out.step hF).cell0; have f41 := (VR.out.step hF).cell1; have f50 := (VG.out.step hF).cell0; have f51 := (VG.out.step hF).cell1; have f60 := (VO.out.step hF).cell0; have f61 := (VO.out.step hF).cell1; clear hF; go_simp; try rfl
  rotate_left
  · simp only [Act.put]; exact rfl
  refine Calm.take (i := 21) (v := ?_) (a' := ?_) (l' := #[true, true, true, true, true, true, true, true, true, true, true, true, true, true, true, true, true, true, true, true, false, true, false, false, false, false, false, false, false, false, false, false, false, false, false, false, false, false, false, false, false, false, false, false, false, false, false, false, false, false, false, false, false, false, false, false, false, false, false, false]) (d := some 168) rfl (by as_aux_lemma => kernel_rfl) (by as_aux_lemma => kernel_rfl) (by as_aux_lemma => kernel_rfl) (by as_aux_lemma => kernel_rfl) (fun _ _ _ h => h) HF.out (by as_aux_lemma => kernel_rfl) ?_ rfl rfl ?_ ?_
  rotate_left
  · intro w' hF; clear hF; go_simp; try rfl
  rotate_left
  · simp only [Act.put]; exact rfl
  refine Calm.one (i := 20) (l' := #[true, true, true, true, true, true, true, true, true, true, true, true, true, true, true, true, true, true, true, true, true, true, false, false, false, false, false, false, false, false, false, false, false, false, false, false, false, false, false, false, false, false, false, false, false, false, false, false, false, false, false, false, false, false, false, false, false, false, false, false]) (by as_aux_lemma => kernel_rfl) rfl (by as_aux_lemma => kernel_rfl) rfl fun K hK => ?_
  go_simp
  refine (rscale_any _ _ (primL xs) (contS xs) 300 _ (XV.out.below HF.out) (IG.out.below HF.out) (by rw [show (primL xs).length = xs.length from by first | rfl | exact HL.out | exact adL_len _ _ | exact primL_len _]; have := LX.out; omega) SV.out SG.out (by decide)).mono ?_
  rintro e y19_6 ⟨bT5, rfl, _, hr, hb⟩
  have i := irow_ints (n := (primL xs).length) hr (by simp) (by rw [show (primL xs).length = xs.length from by first | rfl | exact HL.out | exact adL_len _ _ | exact primL_len _]; have := LX.out; unfold maxLen; omega)
  replace i : Ints _ _ (scL (primL xs) (contS xs)) := i
  have HF' := hide (HF.out.trans ((hb).mono HF.out.size))
  have T5 := hide (i)
  refine hK _ _ (fun _ => HF'.out) ?_
  clear hK K HF hb i hr
  have HF := hide HF'.out
  clear HF'
  refine Calm.one (i := 22) (l' := #[true, true, true, true, true, true, true, true, true, true, true, true, true, true, true, true, true, true, true, true, true, true, true, false, false, false, false, false, false, false, false, false, false, false, false, false, false, false, false, false, false, false, false, false, false, false, false, false, false, false, false, false, false, false, false, false, false, false, false, false]) (by as_aux_lemma => kernel_rfl) rfl (by as_aux_lemma => kernel_rfl) rfl fun K hK => ?_
  go_simp
  refine (rsameL_any _ _ (scL (primL xs) (contS xs)) xs _ T5.out (XA.out.below HF.out)).mono ?_
  rintro e y19_7 ⟨rfl, hb⟩
  rw [rowCmp_self (prim_back xs)]
  clear T5
  have HF' := hide (HF.out.trans ((hb).mono HF.out.size))
  refine hK _ _ (fun _ => HF'.out) ?_
  clear hK K HF hb
  have HF := hide HF'.out
  clear HF'
  refine Calm.take (i := 23) (v := ?_) (a' := ?_) (l' := #[true, true, true, true, true, true, true, true, true, true, true, true, true, true, true, true, true, true, true, true, true, true, true, true, false, false, false, false, false, false, false, false, false, false, false, false, false, false, false, false, false, false, false, false, false, false, false, false, false, false, false, false, false, false, false, false, false, false, false, false]) (d := some 170) rfl (by as_aux_lemma => kernel_rfl) (by as_aux_lemma => kernel_rfl) (by as_aux_lemma => kernel_rfl) (by as_aux_lemma => kernel_rfl) (fun _ _ _ h => h) HF.out rfl ?_ rfl rfl ?_ ?_
  rotate_left
  · intro w' hF; clear hF; go_simp; try rfl
  rotate_left
  · simp only [Act.put]; exact rfl
  refine Calm.take (i := 24) (v := ?_) (a' := ?_) (l' := #[true, true, true, true, true, true, true, true, true, true, true, true, true, true, true, true, true, true, true, true, true, true, true, true, true, false, false, false, false, false, false, false, false, false, false, false, false, false, false, false, false, false, false, false, false, false, false, false, false, false, false, false, false, false, false, false, false, false, false, false]) (d := some 171) rfl (by as_aux_lemma => kernel_rfl) (by as_aux_lemma => kernel_rfl) (by as_aux_lemma => kernel_rfl) (by as_aux_lemma => kernel_rfl) (fun _ _ _ h => h) HF.out rfl ?_ rfl rfl ?_ ?_
  rotate_left
  · intro w' hF; clear hF; go_simp; try rfl
  rotate_left
  · simp only [Act.put]; exact rfl
  refine Calm.take (i := 25) (v := ?_) (a' := ?_) (l' := #[true, true, true, true, true, true, true, true, true, true, true, true, true, true, true, true, true, true, true, true, true, true, true, true, true, true, false, false, false, false, false, false, false, false, false, false, false, false, false, false, false, false, false, false, false, false, false, false, false, false, false, false, false, false, false, false, false, false, false, false]) (d := some 172) rfl (by as_aux_lemma => kernel_rfl) (by as_aux_lemma => kernel_rfl) (by as_aux_lemma => kernel_rfl) (by as_aux_lemma => kernel_rfl) (fun _ _ _ h => h) HF.out (by as_aux_lemma => kernel_rfl) ?_ rfl rfl ?_ ?_
  rotate_left
  · intro w' hF; have f00 := (VA.out.step hF).cell0; have f01 := (VA.out.step hF).cell1; have f10 := (VB.out.step hF).cell0; have f11 := (VB.out.step hF).cell1; have f20 := (VP.out.step hF).cell0; have f21 := (VP.out.step hF).cell1; have f30 := (VQ.out.step hF).cell0; have f31 := (VQ.out.step hF).cell1; have f40 := (VR.out.step hF).cell0; have f41 := (VR.out.step hF).cell1; have f50 := (VG.out.step hF).cell0; have f51 := (VG.out.step hF).cell1; have f60 := (VO.out.step hF).cell0; have f61 := (VO.out.step hF).cell1; clear hF; go_simp; try rfl
  rotate_left
  · simp only [Act.put]; exact rfl
  refine Calm.one (i := 26) (l' := #[true, true, true, true, true, true, true, true, true, true, true, true, true, true, true, true, true, true, true, true, true, true, true, true, true, true, true, false, false, false, false, false, false, false, false, false, false, false, false, false, false, false, false, false, false, false, false, false, false, false, false, false, false, false, false, false, false, false, false, false]) (by as_aux_lemma => kernel_rfl) rfl (by as_aux_lemma => kernel_rfl) rfl fun K hK => ?_
  go_simp
  refine (iof_any 1 _ (by decide) (by decide)).mono ?_
  rintro e y19_8 ⟨v, rfl, i, hb⟩
  have HF' := hide (HF.out.trans ((hb).mono HF.out.size))
  have T6 := hide (i)
  refine hK _ _ (fun _ => HF'.out) ?_
  clear hK K HF hb i
  have HF := hide HF'.out
  clear HF'
  refine Calm.one (i := 27) (l' := #[true, true, true, true, true, true, true, true, true, true, true, true, true, true, true, true, true, true, true, true, true, true, true, true, true, true, true, true, false, false, false, false, false, false, false, false, false, false, false, false, false, false, false, false, false, false, false, false, false, false, false, false, false, false, false, false, false, false, false, false]) (by as_aux_lemma => kernel_rfl) rfl (by as_aux_lemma => kernel_rfl) rfl fun K hK => ?_
  go_simp
  refine (icmp_any _ _ (gcdTo (primL xs) (primL xs).length : Int) 1 _ (IhO.out.below HF.out) T6.out).mono ?_
  rintro e y19_9 ⟨rfl, hb⟩
  obtain ⟨q9, hq9⟩ : ∃ q, cmpZ (gcdTo (primL xs) (primL xs).length : Int) 1 = q := ⟨_, rfl⟩
  have hle9 := HLE.out
  rw [hq9] at hle9 ⊢
  clear hq9
  clear T6
  have HF' := hide (HF.out.trans ((hb).mono HF.out.size))
  refine hK _ _ (fun _ => HF'.out) ?_
  clear hK K HF hb
  have HF := hide HF'.out
  clear HF'
  refine Calm.take (i := 28) (v := ?_) (a' := ?_) (l' := #[true, true, true, true, true, true, true, true, true, true, true, true, true, true, true, true, true, true, true, true, true, true, true, true, true, true, true, true, true, false, false, false, false, false, false, false, false, false, false, false, false, false, false, false, false, false, false, false, false, false, false, false, false, false, false, false, false, false, false, false]) (d := some 175) rfl (by as_aux_lemma => kernel_rfl) (by as_aux_lemma => kernel_rfl) (by as_aux_lemma => kernel_rfl) (by as_aux_lemma => kernel_rfl) (fun _ _ _ h => h) HF.out (by as_aux_lemma => kernel_rfl) ?_ rfl rfl ?_ ?_
  rotate_left
  · intro w' hF; clear hF; go_simp; try rfl
  rotate_left
  · simp only [Act.put]; exact rfl
  refine Calm.take (i := 29) (v := ?_) (a' := ?_) (l' := #[true, true, true, true, true, true, true, true, true, true, true, true, true, true, true, true, true, true, true, true, true, true, true, true, true, true, true, true, true, true, false, false, false, false, false, false, false, false, false, false, false, false, false, false, false, false, false, false, false, false, false, false, false, false, false, false, false, false, false, false]) (d := some 176) rfl (by as_aux_lemma => kernel_rfl) (by as_aux_lemma => kernel_rfl) (by as_aux_lemma => kernel_rfl) (by as_aux_lemma => kernel_rfl) (fun _ _ _ h => h) HF.out rfl ?_ rfl rfl ?_ ?_
  rotate_left
  · intro w' hF; clear hF; go_simp; try rfl
  rotate_left
  · simp only [Act.put]; exact rfl
  refine Calm.take (i := 30) (v := ?_) (a' := ?_) (l' := #[true, true, true, true, true, true, true, true, true, true, true, true, true, true, true, true, true, true, true, true, true, true, true, true, true, true, true, true, true, true, true, false, false, false, false, false, false, false, false, false, false, false, false, false, false, false, false, false, false, false, false, false, false, false, false, false, false, false, false, false]) (d := some 177) rfl (by as_aux_lemma => kernel_rfl) (by as_aux_lemma => kernel_rfl) (by as_aux_lemma => kernel_rfl) (by as_aux_lemma => kernel_rfl) (fun _ _ _ h => h) HF.out rfl ?_ rfl rfl ?_ ?_
  rotate_left
  · intro w' hF; clear hF; go_simp; try rfl
  rotate_left
  · simp only [Act.put]; exact rfl
  refine Calm.take (i := 31) (v := ?_) (a' := ?_) (l' := #[true, true, true, true, true, true, true, true, true, true, true, true, true, true, true, true, true, true, true, true, true, true, true, true, true, true, true, true, true, true, true, true, false, false, false, false, false, false, false, false, false, false, false, false, false, false, false, false, false, false, false, false, false, false, false, false, false, false, false, false]) (d := some 178) rfl (by as_aux_lemma => kernel_rfl) (by as_aux_lemma => kernel_rfl) (by as_aux_lemma => kernel_rfl) (by as_aux_lemma => kernel_rfl) (fun _ _ _ h => h) HF.out (by as_aux_lemma => kernel_rfl) ?_ rfl rfl ?_ ?_
  rotate_left
  · intro w' hF; have f00 := (VA.out.step hF).cell0; have f01 := (VA.out.step hF).cell1; have f10 := (VB.out.step hF).cell0; have f11 := (VB.out.step hF).cell1; have f20 := (VP.out.step hF).cell0; have f21 := (VP.out.step hF).cell1; have f30 := (VQ.out.step hF).cell0; have f31 := (VQ.out.step hF).cell1; have f40 := (VR.out.step hF).cell0; have f41 := (VR.out.step hF).cell1; have f50 := (VG.out.step hF).cell0; have f51 := (VG.out.step hF).cell1; have f60 := (VO.out.step hF).cell0; have f61 := (VO.out.step hF).cell1; clear hF; go_simp; try rfl
  rotate_left
  · simp only [Act.put]; exact rfl
  refine Calm.take (i := 33) (v := ?_) (a' := ?_) (l' := #[true, true, true, true, true, true, true, true, true, true, true, true, true, true, true, true, true, true, true, true, true, true, true, true, true, true, true, true, true, true, true, true, false, true, false, false, false, false, false, false, false, false, false, false, false, false, false, false, false, false, false, false, false, false, false, false, false, false, false, false]) (d := some 180) rfl (by as_aux_lemma => kernel_rfl) (by as_aux_lemma => kernel_rfl) (by as_aux_lemma => kernel_rfl) (by as_aux_lemma => kernel_rfl) (fun _ _ _ h => h) HF.out (by as_aux_lemma => kernel_rfl) ?_ rfl rfl ?_ ?_
  rotate_left
  · intro w' hF; clear hF; go_simp; try rfl
  rotate_left
  · simp only [Act.put]; exact rfl
  refine Calm.one (i := 32) (l' := #[true, true, true, true, true, true, true, true, true, true, true, true, true, true, true, true, true, true, true, true, true, true, true, true, true, true, true, true, true, true, true, true, true, true, false, false, false, false, false, false, false, false, false, false, false, false, false, false, false, false, false, false, false, false, false, false, false, false, false, false]) (by as_aux_lemma => kernel_rfl) rfl (by as_aux_lemma => kernel_rfl) rfl fun K hK => ?_
  go_simp
  refine (isign_any _ _ _ (IhO.out.below HF.out)).mono ?_
  rintro e y19_10 ⟨rfl, hb⟩
  rw [HSG.out]
  have HF' := hide (HF.out.trans ((hb).mono HF.out.size))
  refine hK _ _ (fun _ => HF'.out) ?_
  clear hK K HF hb
  have HF := hide HF'.out
  clear HF'
  refine Calm.one (i := 34) (l' := #[true, true, true, true, true, true, true, true, true, true, true, true, true, true, true, true, true, true, true, true, true, true, true, true, true, true, true, true, true, true, true, true, true, true, true, false, false, false, false, false, false, false, false, false, false, false, false, false, false, false, false, false, false, false, false, false, false, false, false, false]) (by as_aux_lemma => kernel_rfl) rfl (by as_aux_lemma => kernel_rfl) rfl fun K hK => ?_
  go_simp
  refine (content_any _ xs 300 _ (XA.out.below HF.out) SX.out (by decide)).mono ?_
  rintro e y19_11 ⟨v, rfl, i, hb⟩
  have HF' := hide (HF.out.trans ((hb).mono HF.out.size))
  have T7 := hide (i)
  refine hK _ _ (fun _ => HF'.out) ?_
  clear hK K HF hb i
  have HF := hide HF'.out
  clear HF'
  refine Calm.one (i := 35) (l' := #[true, true, true, true, true, true, true, true, true, true, true, true, true, true, true, true, true, true, true, true, true, true, true, true, true, true, true, true, true, true, true, true, true, true, true, true, false, false, false, false, false, false, false, false, false, false, false, false, false, false, false, false, false, false, false, false, false, false, false, false]) (by as_aux_lemma => kernel_rfl) rfl (by as_aux_lemma => kernel_rfl) rfl fun K hK => ?_
  go_simp
  refine (isign_any _ (gcdTo xs xs.length : Int) _ T7.out).mono ?_
  rintro e y19_12 ⟨rfl, hb⟩
  clear T7
  have HF' := hide (HF.out.trans ((hb).mono HF.out.size))
  refine hK _ _ (fun _ => HF'.out) ?_
  clear hK K HF hb
  have HF := hide HF'.out
  clear HF'
  refine Calm.take (i := 36) (v := ?_) (a' := ?_) (l' := #[true, true, true, true, true, true, true, true, true, true, true, true, true, true, true, true, true, true, true, true, true, true, true, true, true, true, true, true, true, true, true, true, true, true, true, true, true, false, false, false, false, false, false, false, false, false, false, false, false, false, false, false, false, false, false, false, false, false, false, false]) (d := some 183) rfl (by as_aux_lemma => kernel_rfl) (by as_aux_lemma => kernel_rfl) (by as_aux_lemma => kernel_rfl) (by as_aux_lemma => kernel_rfl) (fun _ _ _ h => h) HF.out (by as_aux_lemma => kernel_rfl) ?_ rfl rfl ?_ ?_
  rotate_left
  · intro w' hF; clear hF; go_simp; try rfl
  rotate_left
  · simp only [Act.put]; exact rfl
  refine Calm.take (i := 37) (v := ?_) (a' := ?_) (l' := #[true, true, true, true, true, true, true, true, true, true, true, true, true, true, true, true, true, true, true, true, true, true, true, true, true, true, true, true, true, true, true, true, true, true, true, true, true, true, false, false, false, false, false, false, false, false, false, false, false, false, false, false, false, false, false, false, false, false, false, false]) (d := some 184) rfl (by as_aux_lemma => kernel_rfl) (by as_aux_lemma => kernel_rfl) (by as_aux_lemma => kernel_rfl) (by as_aux_lemma => kernel_rfl) (fun _ _ _ h => h) HF.out rfl ?_ rfl rfl ?_ ?_
  rotate_left
  · intro w' hF; clear hF; go_simp; try rfl
  rotate_left
  · simp only [Act.put]; exact rfl
  refine Calm.take (i := 38) (v := ?_) (a' := ?_) (l' := #[true, true, true, true, true, true, true, true, true, true, true, true, true, true, true, true, true, true, true, true, true, true, true, true, true, true, true, true, true, true, true, true, true, true, true, true, true, true, true, false, false, false, false, false, false, false, false, false, false, false, false, false, false, false, false, false, false, false, false, false]) (d := some 185) rfl (by as_aux_lemma => kernel_rfl) (by as_aux_lemma => kernel_rfl) (by as_aux_lemma => kernel_rfl) (by as_aux_lemma => kernel_rfl) (fun _ _ _ h => h) HF.out rfl ?_ rfl rfl ?_ ?_
  rotate_left
  · intro w' hF; clear hF; go_simp; try rfl
  rotate_left
  · simp only [Act.put]; exact rfl
  refine Calm.take (i := 39) (v := ?_) (a' := ?_) (l' := #[true, true, true, true, true, true, true, true, true, true, true, true, true, true, true, true, true, true, true, true, true, true, true, true, true, true, true, true, true, true, true, true, true, true, true, true, true, true, true, true, false, false, false, false, false, false, false, false, false, false, false, false, false, false, false, false, false, false, false, false]) (d := some 186) rfl (by as_aux_lemma => kernel_rfl) (by as_aux_lemma => kernel_rfl) (by as_aux_lemma => kernel_rfl) (by as_aux_lemma => kernel_rfl) (fun _ _ _ h => h) HF.out (by as_aux_lemma => kernel_rfl) ?_ rfl rfl ?_ ?_
  rotate_left
  · intro w' hF; clear hF; go_simp; try rfl
  rotate_left
  · simp only [Act.put]; exact rfl
  refine Calm.take (i := 40) (v := ?_) (a' := ?_) (l' := #[true, true, true, true, true, true, true, true, true, true, true, true, true, true, true, true, true, true, true, true, true, true, true, true, true, true, true, true, true, true, true, true, true, true, true, true, true, true, true, true, true, false, false, false, false, false, false, false, false, false, false, false, false, false, false, false, false, false, false, false]) (d := some 187) rfl (by as_aux_lemma => kernel_rfl) (by as_aux_lemma => kernel_rfl) (by as_aux_lemma => kernel_rfl) (by as_aux_lemma => kernel_rfl) (fun _ _ _ h => h) HF.out (by as_aux_lemma => kernel_rfl) ?_ rfl rfl ?_ ?_
  rotate_left
  · intro w' hF; have f00 := (VA.out.step hF).cell0; have f01 := (VA.out.step hF).cell1; have f10 := (VB.out.step hF).cell0; have f11 := (VB.out.step hF).cell1; have f20 := (VP.out.step hF).cell0; have f21 := (VP.out.step hF).cell1; have f30 := (VQ.out.step hF).cell0; have f31 := (VQ.out.step hF).cell1; have f40 := (VR.out.step hF).cell0; have f41 := (VR.out.step hF).cell1; have f50 := (VG.out.step hF).cell0; have f51 := (VG.out.step hF).cell1; have f60 := (VO.out.step hF).cell0; have f61 := (VO.out.step hF).cell1; clear hF; go_simp; try rfl
  rotate_left
  · simp only [Act.put]; exact rfl
  refine Calm.take (i := 43) (v := ?_) (a' := ?_) (l' := #[true, true, true, true, true, true, true, true, true, true, true, true, true, true, true, true, true, true, true, true, true, true, true, true, true, true, true, true, true, true, true, true, true, true, true, true, true, true, true, true, true, false, false, true, false, false, false, false, false, false, false, false, false, false, false, false, false, false, false, false]) (d := some 190) rfl (by as_aux_lemma => kernel_rfl) (by as_aux_lemma => kernel_rfl) (by as_aux_lemma => kernel_rfl) (by as_aux_lemma => kernel_rfl) (fun _ _ _ h => h) HF.out (by as_aux_lemma => kernel_rfl) ?_ rfl rfl ?_ ?_
  rotate_left
  · intro w' hF; clear hF; go_simp; try rfl
  rotate_left
  · simp only [Act.put]; exact rfl
  refine Calm.take (i := 45) (v := ?_) (a' := ?_) (l' := #[true, true, true, true, true, true, true, true, true, true, true, true, true, true, true, true, true, true, true, true, true, true, true, true, true, true, true, true, true, true, true, true, true, true, true, true, true, true, true, true, true, false, false, true, false, true, false, false, false, false, false, false, false, false, false, false, false, false, false, false]) (d := some 192) rfl (by as_aux_lemma => kernel_rfl) (by as_aux_lemma => kernel_rfl) (by as_aux_lemma => kernel_rfl) (by as_aux_lemma => kernel_rfl) (fun _ _ _ h => h) HF.out (by as_aux_lemma => kernel_rfl) ?_ rfl rfl ?_ ?_
  rotate_left
  · intro w' hF; have f00 := (VA.out.step hF).cell0; have f01 := (VA.out.step hF).cell1; have f10 := (VB.out.step hF).cell0; have f11 := (VB.out.step hF).cell1; have f20 := (VP.out.step hF).cell0; have f21 := (VP.out.step hF).cell1; have f30 := (VQ.out.step hF).cell0; have f31 := (VQ.out.step hF).cell1; have f40 := (VR.out.step hF).cell0; have f41 := (VR.out.step hF).cell1; have f50 := (VG.out.step hF).cell0; have f51 := (VG.out.step hF).cell1; have f60 := (VO.out.step hF).cell0; have f61 := (VO.out.step hF).cell1; clear hF; go_simp; try rfl
  rotate_left
  · simp only [Act.put]; exact rfl
  refine Calm.one (i := 41) (l' := #[true, true, true, true, true, true, true, true, true, true, true, true, true, true, true, true, true, true, true, true, true, true, true, true, true, true, true, true, true, true, true, true, true, true, true, true, true, true, true, true, true, true, false, true, false, true, false, false, false, false, false, false, false, false, false, false, false, false, false, false]) (by as_aux_lemma => kernel_rfl) rfl (by as_aux_lemma => kernel_rfl) rfl fun K hK => ?_
  go_simp
  refine (rscale_any _ _ xs m 300 _ (XA.out.below HF.out) (IM.out.below HF.out) (by rw [show xs.length = xs.length from by first | rfl | exact HL.out | exact adL_len _ _ | exact primL_len _]; have := LX.out; omega) SX.out SM.out (by decide)).mono ?_
  rintro e y19_13 ⟨bT8, rfl, _, hr, hb⟩
  have i := irow_ints (n := xs.length) hr (by simp) (by rw [show xs.length = xs.length from by first | rfl | exact HL.out | exact adL_len _ _ | exact primL_len _]; have := LX.out; unfold maxLen; omega)
  replace i : Ints _ _ (scL xs m) := i
  have HF' := hide (HF.out.trans ((hb).mono HF.out.size))
  have T8 := hide (i)
  refine hK _ _ (fun _ => HF'.out) ?_
  clear hK K HF hb i hr
  have HF := hide HF'.out
  clear HF'
  refine Calm.one (i := 42) (l' := #[true, true, true, true, true, true, true, true, true, true, true, true, true, true, true, true, true, true, true, true, true, true, true, true, true, true, true, true, true, true, true, true, true, true, true, true, true, true, true, true, true, true, true, true, false, true, false, false, false, false, false, false, false, false, false, false, false, false, false, false]) (by as_aux_lemma => kernel_rfl) rfl (by as_aux_lemma => kernel_rfl) rfl fun K hK => ?_
  go_simp
  refine (content_any _ (scL xs m) 600 _ T8.out (SX.out.scale SM.out) (by decide)).mono ?_
  rintro e y19_14 ⟨v, rfl, i, hb⟩
  clear T8
  have HF' := hide (HF.out.trans ((hb).mono HF.out.size))
  have T9 := hide (i)
  refine hK _ _ (fun _ => HF'.out) ?_
  clear hK K HF hb i
  have HF := hide HF'.out
  clear HF'
  refine Calm.one (i := 44) (l' := #[true, true, true, true, true, true, true, true, true, true, true, true, true, true, true, true, true, true, true, true, true, true, true, true, true, true, true, true, true, true, true, true, true, true, true, true, true, true, true, true, true, true, true, true, true, true, false, false, false, false, false, false, false, false, false, false, false, false, false, false]) (by as_aux_lemma => kernel_rfl) rfl (by as_aux_lemma => kernel_rfl) rfl fun K hK => ?_
  go_simp
  refine (content_any _ xs 300 _ (XA.out.below HF.out) SX.out (by decide)).mono ?_
  rintro e y19_15 ⟨v, rfl, i, hb⟩
  replace T9 := hide (T9.out.below (hb))
  have HF' := hide (HF.out.trans ((hb).mono HF.out.size))
  have Ta := hide (i)
  refine hK _ _ (fun _ => HF'.out) ?_
  clear hK K HF hb i
  have HF := hide HF'.out
  clear HF'
  refine Calm.one (i := 46) (l' := #[true, true, true, true, true, true, true, true, true, true, true, true, true, true, true, true, true, true, true, true, true, true, true, true, true, true, true, true, true, true, true, true, true, true, true, true, true, true, true, true, true, true, true, true, true, true, true, false, false, false, false, false, false, false, false, false, false, false, false, false]) (by as_aux_lemma => kernel_rfl) rfl (by as_aux_lemma => kernel_rfl) rfl fun K hK => ?_
  go_simp
  refine (iabs_any _ m _ (IM.out.below HF.out)).mono ?_
  rintro e y19_16 ⟨v, rfl, i, hb⟩
  replace T9 := hide (T9.out.below (hb))
  replace Ta := hide (Ta.out.below (hb))
  have HF' := hide (HF.out.trans ((hb).mono HF.out.size))
  have Tb := hide (i)
  refine hK _ _ (fun _ => HF'.out) ?_
  clear hK K HF hb i
  have HF := hide HF'.out
  clear HF'
  refine Calm.one (i := 47) (l' := #[true, true, true, true, true, true, true, true, true, true, true, true, true, true, true, true, true, true, true, true, true, true, true, true, true, true, true, true, true, true, true, true, true, true, true, true, true, true, true, true, true, true, true, true, true, true, true, true, false, false, false, false, false, false, false, false, false, false, false, false]) (by as_aux_lemma => kernel_rfl) rfl (by as_aux_lemma => kernel_rfl) rfl fun K hK => ?_
  go_simp
  refine (imul_any _ _ (gcdTo xs xs.length : Int) (m.natAbs : Int) _ Ta.out Tb.out (SzI.len SC.out (by decide)) (SzI.len (show SzI 300 (m.natAbs : Int) from by have h := SM.out; unfold SzI at h ⊢; simpa using h) (by decide))).mono ?_
  rintro e y19_17 ⟨v, rfl, i, hb⟩
  replace T9 := hide (T9.out.below (hb))
  clear Ta
  clear Tb
  have HF' := hide (HF.out.trans ((hb).mono HF.out.size))
  have Tc := hide (i)
  refine hK _ _ (fun _ => HF'.out) ?_
  clear hK K HF hb i
  have HF := hide HF'.out
  clear HF'
  refine Calm.one (i := 48) (l' := #[true, true, true, true, true, true, true, true, true, true, true, true, true, true, true, true, true, true, true, true, true, true, true, true, true, true, true, true, true, true, true, true, true, true, true, true, true, true, true, true, true, true, true, true, true, true, true, true, true, false, false, false, false, false, false, false, false, false, false, false]) (by as_aux_lemma => kernel_rfl) rfl (by as_aux_lemma => kernel_rfl) rfl fun K hK => ?_
  go_simp
  refine (icmp_same _ _ (gcdTo (scL xs m) (scL xs m).length : Int) ((gcdTo xs xs.length : Int) * (m.natAbs : Int)) _ T9.out Tc.out (cont_scale xs m)).mono ?_
  rintro e y19_18 ⟨rfl, hb⟩
  clear T9
  clear Tc
  have HF' := hide (HF.out.trans ((hb).mono HF.out.size))
  refine hK _ _ (fun _ => HF'.out) ?_
  clear hK K HF hb
  have HF := hide HF'.out
  clear HF'
  refine Calm.take (i := 49) (v := ?_) (a' := ?_) (l' := #[true, true, true, true, true, true, true, true, true, true, true, true, true, true, true, true, true, true, true, true, true, true, true, true, true, true, true, true, true, true, true, true, true, true, true, true, true, true, true, true, true, true, true, true, true, true, true, true, true, true, false, false, false, false, false, false, false, false, false, false]) (d := some 196) rfl (by as_aux_lemma => kernel_rfl) (by as_aux_lemma => kernel_rfl) (by as_aux_lemma => kernel_rfl) (by as_aux_lemma => kernel_rfl) (fun _ _ _ h => h) HF.out (by as_aux_lemma => kernel_rfl) ?_ rfl rfl ?_ ?_
  rotate_left
  · intro w' hF; clear hF; go_simp; try rfl
  rotate_left
  · simp only [Act.put]; exact rfl
  refine Calm.take (i := 50) (v := ?_) (a' := ?_) (l' := #[true, true, true, true, true, true, true, true, true, true, true, true, true, true, true, true, true, true, true, true, true, true, true, true, true, true, true, true, true, true, true, true, true, true, true, true, true, true, true, true, true, true, true, true, true, true, true, true, true, true, true, false, false, false, false, false, false, false, false, false]) (d := some 197) rfl (by as_aux_lemma => kernel_rfl) (by as_aux_lemma => kernel_rfl) (by as_aux_lemma => kernel_rfl) (by as_aux_lemma => kernel_rfl) (fun _ _ _ h => h) HF.out rfl ?_ rfl rfl ?_ ?_
  rotate_left
  · intro w' hF; clear hF; go_simp; try rfl
  rotate_left
  · simp only [Act.put]; exact rfl
  refine Calm.take (i := 51) (v := ?_) (a' := ?_) (l' := #[true, true, true, true, true, true, true, true, true, true, true, true, true, true, true, true, true, true, true, true, true, true, true, true, true, true, true, true, true, true, true, true, true, true, true, true, true, true, true, true, true, true, true, true, true, true, true, true, true, true, true, true, false, false, false, false, false, false, false, false]) (d := some 198) rfl (by as_aux_lemma => kernel_rfl) (by as_aux_lemma => kernel_rfl) (by as_aux_lemma => kernel_rfl) (by as_aux_lemma => kernel_rfl) (fun _ _ _ h => h) HF.out rfl ?_ rfl rfl ?_ ?_
  rotate_left
  · intro w' hF; clear hF; go_simp; try rfl
  rotate_left
  · simp only [Act.put]; exact rfl
  refine Calm.take (i := 52) (v := ?_) (a' := ?_) (l' := #[true, true, true, true, true, true, true, true, true, true, true, true, true, true, true, true, true, true, true, true, true, true, true, true, true, true, true, true, true, true, true, true, true, true, true, true, true, true, true, true, true, true, true, true, true, true, true, true, true, true, true, true, true, false, false, false, false, false, false, false]) (d := some 199) rfl (by as_aux_lemma => kernel_rfl) (by as_aux_lemma => kernel_rfl) (by as_aux_lemma => kernel_rfl) (by as_aux_lemma => kernel_rfl) (fun _ _ _ h => h) HF.out (by as_aux_lemma => kernel_rfl) ?_ rfl rfl ?_ ?_
  rotate_left
  · intro w' hF; clear hF; go_simp; try rfl
  rotate_left
  · simp only [Act.put]; exact rfl
  refine Calm.take (i := 54) (v := ?_) (a' := ?_) (l' := #[true, true, true, true, true, true, true, true, true, true, true, true, true, true, true, true, true, true, true, true, true, true, true, true, true, true, true, true, true, true, true, true, true, true, true, true, true, true, true, true, true, true, true, true, true, true, true, true, true, true, true, true, true, false, true, false, false, false, false, false]) (d := some 201) rfl (by as_aux_lemma => kernel_rfl) (by as_aux_lemma => kernel_rfl) (by as_aux_lemma => kernel_rfl) (by as_aux_lemma => kernel_rfl) (fun _ _ _ h => h) HF.out (by as_aux_lemma => kernel_rfl) ?_ rfl rfl ?_ ?_
  rotate_left
  · intro w' hF; have f00 := (VA.out.step hF).cell0; have f01 := (VA.out.step hF).cell1; have f10 := (VB.out.step hF).cell0; have f11 := (VB.out.step hF).cell1; have f20 := (VP.out.step hF).cell0; have f21 := (VP.out.step hF).cell1; have f30 := (VQ.out.step hF).cell0; have f31 := (VQ.out.step hF).cell1; have f40 := (VR.out.step hF).cell0; have f41 := (VR.out.step hF).cell1; have f50 := (VG.out.step hF).cell0; have f51 := (VG.out.step hF).cell1; have f60 := (VO.out.step hF).cell0; have f61 := (VO.out.step hF).cell1; clear hF; go_simp; try rfl
  rotate_left
  · simp only [Act.put]; exact rfl
  refine Calm.one (i := 53) (l' := #[true, true, true, true, true, true, true, true, true, true, true, true, true, true, true, true, true, true, true, true, true, true, true, true, true, true, true, true, true, true, true, true, true, true, true, true, true, true, true, true, true, true, true, true, true, true, true, true, true, true, true, true, true, true, true, false, false, false, false, false]) (by as_aux_lemma => kernel_rfl) rfl (by as_aux_lemma => kernel_rfl) rfl fun K hK => ?_
  go_simp
  refine (content_any _ xs 300 _ (XA.out.below HF.out) SX.out (by decide)).mono ?_
  rintro e y19_19 ⟨v, rfl, i, hb⟩
  have HF' := hide (HF.out.trans ((hb).mono HF.out.size))
  have Td := hide (i)
  refine hK _ _ (fun _ => HF'.out) ?_
  clear hK K HF hb i
  have HF := hide HF'.out
  clear HF'
  refine Calm.one (i := 55) (l' := #[true, true, true, true, true, true, true, true, true, true, true, true, true, true, true, true, true, true, true, true, true, true, true, true, true, true, true, true, true, true, true, true, true, true, true, true, true, true, true, true, true, true, true, true, true, true, true, true, true, true, true, true, true, true, true, true, false, false, false, false]) (by as_aux_lemma => kernel_rfl) rfl (by as_aux_lemma => kernel_rfl) rfl fun K hK => ?_
  go_simp
  refine (iabs_any _ (contS xs) _ (IG.out.below HF.out)).mono ?_
  rintro e y19_20 ⟨v, rfl, i, hb⟩
  replace Td := hide (Td.out.below (hb))
  have HF' := hide (HF.out.trans ((hb).mono HF.out.size))
  have Te := hide (i)
  refine hK _ _ (fun _ => HF'.out) ?_
  clear hK K HF hb i
  have HF := hide HF'.out
  clear HF'
  refine Calm.one (i := 56) (l' := #[true, true, true, true, true, true, true, true, true, true, true, true, true, true, true, true, true, true, true, true, true, true, true, true, true, true, true, true, true, true, true, true, true, true, true, true, true, true, true, true, true, true, true, true, true, true, true, true, true, true, true, true, true, true, true, true, true, false, false, false]) (by as_aux_lemma => kernel_rfl) rfl (by as_aux_lemma => kernel_rfl) rfl fun K hK => ?_
  go_simp
  refine (icmp_same _ _ (gcdTo xs xs.length : Int) ((contS xs).natAbs : Int) _ Td.out Te.out (by rw [contS_abs])).mono ?_
  rintro e y19_21 ⟨rfl, hb⟩
  clear Td
  clear Te
  have HF' := hide (HF.out.trans ((hb).mono HF.out.size))
  refine hK _ _ (fun _ => HF'.out) ?_
  clear hK K HF hb
  have HF := hide HF'.out
  clear HF'
  refine Calm.take (i := 57) (v := ?_) (a' := ?_) (l' := #[true, true, true, true, true, true, true, true, true, true, true, true, true, true, true, true, true, true, true, true, true, true, true, true, true, true, true, true, true, true, true, true, true, true, true, true, true, true, true, true, true, true, true, true, true, true, true, true, true, true, true, true, true, true, true, true, true, true, false, false]) (d := some 204) rfl (by as_aux_lemma => kernel_rfl) (by as_aux_lemma => kernel_rfl) (by as_aux_lemma => kernel_rfl) (by as_aux_lemma => kernel_rfl) (fun _ _ _ h => h) HF.out (by as_aux_lemma => kernel_rfl) ?_ rfl rfl ?_ ?_
  rotate_left
  · intro w' hF; clear hF; go_simp; try rfl
  rotate_left
  · simp only [Act.put]; exact rfl
  refine Calm.take (i := 58) (v := ?_) (a' := ?_) (l' := #[true, true, true, true, true, true, true, true, true, true, true, true, true, true, true, true, true, true, true, true, true, true, true, true, true, true, true, true, true, true, true, true, true, true, true, true, true, true, true, true, true, true, true, true, true, true, true, true, true, true, true, true, true, true, true, true, true, true, true, false]) (d := some 205) rfl (by as_aux_lemma => kernel_rfl) (by as_aux_lemma => kernel_rfl) (by as_aux_lemma => kernel_rfl) (by as_aux_lemma => kernel_rfl) (fun _ _ _ h => h) HF.out rfl ?_ rfl rfl ?_ ?_
  rotate_left
  · intro w' hF; clear hF; go_simp; try rfl
  rotate_left
  · simp only [Act.put]; exact rfl
  refine Calm.take (i := 59) (v := ?_) (a' := ?_) (l' := #[true, true, true, true, true, true, true, true, true, true, true, true, true, true, true, true, true, true, true, true, true, true, true, true, true, true, true, true, true, true, true, true, true, true, true, true, true, true, true, true, true, true, true, true, true, true, true, true, true, true, true, true, true, true, true, true, true, true, true, true]) (d := some 2) rfl (by as_aux_lemma => kernel_rfl) (by as_aux_lemma => kernel_rfl) (by as_aux_lemma => kernel_rfl) (by as_aux_lemma => kernel_rfl) (fun _ _ _ h => h) HF.out rfl ?_ rfl rfl ?_ ?_
  rotate_left
  · intro w' hF; clear hF; go_simp; try rfl
  rotate_left
  · simp only [Act.put]; exact rfl
  refine Calm.done (by as_aux_lemma => kernel_rfl) ?_
  replace HB := hide (HB.out.trans ((HF.out).mono HB.out.size))
  clear HF
  go_wp2
  go_ret
  exact ⟨rfl, HB.out⟩
end Go.Proofs.Ytmeckembnglhiaa
