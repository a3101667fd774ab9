/- swagelaw04.RowSums answers true at all rows and numbers, and turns nothing that was there. -/
import Derived.Test.YtngdnekbajnomaaWRDot
import Derived.Test.YtngdnekbajnomaaWRNeg
import Derived.Test.YtngdnekbajnomaaWLive
import Derived.Test.YtngdnekbajnomaaWOf
import Derived.Test.YtngdnekbajnomaaPtrB
import Derived.RegionTactic
namespace Go.Proofs.Ytngdnekbajnomaa
open Go.RowKit

theorem numl2S (w : World) (b1 b2 : Bool) (m1 m2 : Option Addr) (c1 c2 : Nat) (xs ys : List Nat) (t : TypeId) (h1 : Nums w (.slice m1 xs.length c1) xs) (h2 : Nums w (.slice m2 ys.length c2) ys) (l1 : xs.length ≤ 140737488355328) (l2 : ys.length ≤ 140737488355328) :
    NumL (w.alloc (.cells #[.bool b1, .slice m1 xs.length c1, .bool b2, .slice m2 ys.length c2] t)) (.slice (some ⟨w.heap.size, 0, none⟩) 2 2) [(b1, xs), (b2, ys)] := by
  have hh : (w.alloc (.cells #[.bool b1, .slice m1 xs.length c1, .bool b2, .slice m2 ys.length c2] t)).heap[w.heap.size]? = some (.cells #[.bool b1, .slice m1 xs.length c1, .bool b2, .slice m2 ys.length c2] t (0, 0)) := heap_alloc_new _ _
  have g1 := h1.below (below_alloc w (.cells #[.bool b1, .slice m1 xs.length c1, .bool b2, .slice m2 ys.length c2] t))
  have g2 := h2.below (below_alloc w (.cells #[.bool b1, .slice m1 xs.length c1, .bool b2, .slice m2 ys.length c2] t))
  generalize w.alloc (.cells #[.bool b1, .slice m1 xs.length c1, .bool b2, .slice m2 ys.length c2] t) = W at *
  refine ⟨_, 2, rfl, Nat.le_refl _, by decide, fun i => ?_, fun _ => ⟨_, 0, rfl, fun i hi => ?_⟩⟩
  · match i with
    | 0 => exact l1
    | 1 => exact l2
    | i + 2 => show (([] : List (Bool × List Nat)).getD i (false, [])).2.length ≤ _; simp
  · match i, hi with
    | 0, _ => exact ⟨m1, c1, by unfold World.cell?; simp only [hh]; rfl, by unfold World.cell?; simp only [hh]; rfl, g1⟩
    | 1, _ => exact ⟨m2, c2, by unfold World.cell?; simp only [hh]; rfl, by unfold World.cell?; simp only [hh]; rfl, g2⟩
theorem numll3S (w : World) (va vb vc : Value) (ns ms ps : List (Bool × List Nat)) (t : TypeId) (h1 : NumL w va ns) (h2 : NumL w vb ms) (h3 : NumL w vc ps) : NumLL (w.alloc (.cells #[va, vb, vc] t)) (.slice (some ⟨w.heap.size, 0, none⟩) 3 3) [ns, ms, ps] := by
  have hh : (w.alloc (.cells #[va, vb, vc] t)).heap[w.heap.size]? = some (.cells #[va, vb, vc] t (0, 0)) := heap_alloc_new _ _
  have g1 := h1.below (below_alloc w (.cells #[va, vb, vc] t))
  have g2 := h2.below (below_alloc w (.cells #[va, vb, vc] t))
  have g3 := h3.below (below_alloc w (.cells #[va, vb, vc] t))
  generalize w.alloc (.cells #[va, vb, vc] t) = W at *
  refine ⟨_, 3, rfl, Nat.le_refl _, by unfold maxLen; decide, fun _ => ⟨_, 0, rfl, fun i hi => ?_⟩⟩
  match i, hi with
  | 0, _ => exact ⟨va, by unfold World.cell?; simp only [hh]; rfl, g1⟩
  | 1, _ => exact ⟨vb, by unfold World.cell?; simp only [hh]; rfl, g2⟩
  | 2, _ => exact ⟨vc, by unfold World.cell?; simp only [hh]; rfl, g3⟩
theorem irow_intsS {w : World} {b n : Nat} {zs : List Int} (h : IRow w b zs) (hn : zs.length = n) (hl : n ≤ maxLen) : Ints w (.slice (some ⟨b, 0, none⟩) n n) zs := by subst hn; exact h.ints hl
theorem few_lenMS {ns : List (Bool × List Nat)} (h : Few ns) (i : Nat) : (ns.getD i (false, [])).2.length ≤ 1000000 := by
  rcases Nat.lt_or_ge i ns.length with hi | hi
  · exact Nat.le_trans (h.2 i hi) (by decide)
  · rw [List.getD_eq_getElem?_getD, List.getElem?_eq_none hi]; simp

theorem own_row (b n : Nat) (ys : List Int) (va vb : Value) (zs : List Int) (W w : World) (hn : ys.length = n) (hW : Below W.heap.size W w) (hb : W.heap.size ≤ b) (hr : IRow w b ys) (hl : n ≤ 4000000000) (h1 : Ints W va zs) (h2 : RInts W vb zs) (hz : ∀ i, (lim (zs.getD i 0).natAbs).length ≤ 1000000000) :
    Calls Try.prog 18 #[.slice (some ⟨b, 0, none⟩) n n, va, vb] w fun e w' => e = .returned (.bool true) ∧ KeptBut b w w' ∧ Below W.heap.size W w' := by
  subst hn; exact own_yes b ys va vb zs W w hW hb hr hl h1 h2 hz
theorem Box.kept {b g : Nat} {w w' : World} {x y : Value} (h : Box w g x y) (hk : KeptBut b w w') (hne : g ≠ b) : Box w' g x y := (hk.block g h.lt hne).trans h
theorem below_keptS {b B : Nat} {w w' w'' : World} (h : Below B w w') (hk : KeptBut b w' w'') (hb : B ≤ b) (hB : B ≤ w'.heap.size) : Below B w w'' := h.grown ⟨hk.rest.1, hk.rest.2.1, hk.rest.2.2, hk.size, fun k hk' hne => hk.block k hk' (fun e => hne (by rw [e]))⟩ hB (fun g e => by cases e; exact hb)
theorem neg_scale (xs : List Int) : ((List.range xs.length).map fun i => -(xs.getD i 0)) = scL xs (-1) := by unfold scL; congr 1; funext i; omega
structure MkJ8 (base : World) (gq : Nat) (bn : Bool) (vl : Value) (z : Int) (L : Nat → Bool) (T : Nat → Value) (w : World) : Prop where
  bl : Below base.heap.size base w
  i5 : T 5 = .pointer (some ⟨gq, 0, none⟩)
  f0 : L 0 = true → T 52 = .pointer (some ⟨gq, 0, none⟩)
  f1 : L 1 = true → T 53 = .bool bn
  f2 : L 2 = true → T 54 = .pointer (some ⟨gq, 1, none⟩)
  f3 : L 3 = true → T 55 = vl
  f5 : L 5 = true → T 57 = .pointer (some ⟨gq, 0, none⟩)
  f6 : L 6 = true → T 58 = .bool bn
  f7 : L 7 = true → T 59 = .pointer (some ⟨gq, 1, none⟩)
  f8 : L 8 = true → T 60 = vl
  f4 : L 4 = true → IntAt w (T 56) z
  f9 : L 9 = true → RInt w (T 61) z
  p10 : L 10 = true → PS base.heap.size w (T 11)
  f10 : L 10 = true → L 12 = false → PB base.heap.size w 36 (T 11) (.bool false) (.slice none 0 0)
  p11 : L 11 = true → PS base.heap.size w (T 12)
  f11 : L 11 = true → L 13 = false → PB base.heap.size w 39 (T 12) (.bool false) (.slice none 0 0)
  n10_11 : L 10 = true → L 11 = true → T 11 ≠ T 12
  f12 : L 12 = true → PV base.heap.size w 36 (T 11) (T 56)
  f13 : L 13 = true → PV base.heap.size w 39 (T 12) (T 61)
structure MkJ9 (base : World) (gq : Nat) (bn : Bool) (vl : Value) (z : Int) (L : Nat → Bool) (T : Nat → Value) (w : World) : Prop where
  bl : Below base.heap.size base w
  i6 : T 6 = .pointer (some ⟨gq, 0, none⟩)
  f0 : L 0 = true → T 62 = .pointer (some ⟨gq, 0, none⟩)
  f1 : L 1 = true → T 63 = .bool bn
  f2 : L 2 = true → T 64 = .pointer (some ⟨gq, 1, none⟩)
  f3 : L 3 = true → T 65 = vl
  f5 : L 5 = true → T 67 = .pointer (some ⟨gq, 0, none⟩)
  f6 : L 6 = true → T 68 = .bool bn
  f7 : L 7 = true → T 69 = .pointer (some ⟨gq, 1, none⟩)
  f8 : L 8 = true → T 70 = vl
  f4 : L 4 = true → IntAt w (T 66) z
  f9 : L 9 = true → RInt w (T 71) z
  p10 : L 10 = true → PS base.heap.size w (T 13)
  f10 : L 10 = true → L 12 = false → PB base.heap.size w 36 (T 13) (.bool false) (.slice none 0 0)
  p11 : L 11 = true → PS base.heap.size w (T 14)
  f11 : L 11 = true → L 13 = false → PB base.heap.size w 39 (T 14) (.bool false) (.slice none 0 0)
  n10_11 : L 10 = true → L 11 = true → T 13 ≠ T 14
  f12 : L 12 = true → PV base.heap.size w 36 (T 13) (T 66)
  f13 : L 13 = true → PV base.heap.size w 39 (T 14) (T 71)
set_option maxRecDepth 100000 in
set_option maxHeartbeats 16000000 in
theorem rsums_walk (aa ab mc md : Option Addr) (ca cb cc cd : Nat) (cn dn : Bool) (ns ms : List (Bool × List Nat)) (xc xd : List Nat) (w : World)
    (h1 : NumL w (.slice aa ns.length ca) ns) (h2 : NumL w (.slice ab ms.length cb) ms) (h3 : Nums w (.slice mc xc.length cc) xc) (h4 : Nums w (.slice md xd.length cd) xd) (l3 : xc.length ≤ 140737488355328) (l4 : xd.length ≤ 140737488355328) :
    Calls Try.prog 3 #[.agg #[.slice aa ns.length ca, .slice ab ms.length cb, .bool cn, .slice mc xc.length cc, .bool dn, .slice md xd.length cd]] w fun e w' => e = .returned (.bool true) ∧ Below w.heap.size w w' := by
  have N1 := hide h1
  have N2 := hide h2
  have N3 := hide h3
  have N4 := hide h4
  have L3 := hide l3
  have L4 := hide l4
  have hla : ns.length ≤ 140737488355328 := by obtain ⟨a, c, he, k1, k2, _⟩ := h1; simp only [Value.slice.injEq] at he; omega
  have hlb : ms.length ≤ 140737488355328 := by obtain ⟨a, c, he, k1, k2, _⟩ := h2; simp only [Value.slice.injEq] at he; omega
  clear h1 h2 h3 h4 l3 l4
  have S6 : Hid ((w.alloc (.cells #[.slice aa ns.length ca, .slice ab ms.length cb, .bool cn, .slice mc xc.length cc, .bool dn, .slice md xd.length cd] 27)).heap[w.heap.size]? = some (.cells #[.slice aa ns.length ca, .slice ab ms.length cb, .bool cn, .slice mc xc.length cc, .bool dn, .slice md xd.length cd] 27 (0, 0))) := hide (heap_alloc_new _ _)
  have HB := hide (below_alloc w (.cells #[.slice aa ns.length ca, .slice ab ms.length cb, .bool cn, .slice mc xc.length cc, .bool dn, .slice md xd.length cd] 27))
  go_enter Try.func3, Try.ntmps3
  go_wp2_with fail
  generalize w.alloc (.cells #[.slice aa ns.length ca, .slice ab ms.length cb, .bool cn, .slice mc xc.length cc, .bool dn, .slice md xd.length cd] 27) = w0 at *
  refine (rlive_any _).mono ?_
  rintro e w1 ⟨rfl, hb⟩
  have LT6 : w.heap.size < w0.heap.size := (Array.getElem?_eq_some_iff.1 S6.out).1
  replace S6 := hide ((hb.block w.heap.size LT6).trans S6.out)
  replace HB := hide (HB.out.trans (hb.mono HB.out.size))
  clear hb LT6
  go_upto_region 3 with fail
  have s0 : w1.cell? ⟨w.heap.size, 0, none⟩ = some (.slice aa ns.length ca) := by unfold World.cell?; simp only [S6.out]; rfl
  have s1 : w1.cell? ⟨w.heap.size, 1, none⟩ = some (.slice ab ms.length cb) := by unfold World.cell?; simp only [S6.out]; rfl
  have s2 : w1.cell? ⟨w.heap.size, 2, none⟩ = some (.bool cn) := by unfold World.cell?; simp only [S6.out]; rfl
  have s3 : w1.cell? ⟨w.heap.size, 3, none⟩ = some (.slice mc xc.length cc) := by unfold World.cell?; simp only [S6.out]; rfl
  have s4 : w1.cell? ⟨w.heap.size, 4, none⟩ = some (.bool dn) := by unfold World.cell?; simp only [S6.out]; rfl
  have s5 : w1.cell? ⟨w.heap.size, 5, none⟩ = some (.slice md xd.length cd) := by unfold World.cell?; simp only [S6.out]; rfl
  have hlt6 : w.heap.size < w1.heap.size := (Array.getElem?_eq_some_iff.1 S6.out).1
  clear S6
  go_cut [3, 4, 5, 6] from 25 (fun p3 p4 p5 p6 wx => ∃ gc gd, p3 = (.slice aa ns.length ca) ∧ p4 = (.slice ab ms.length cb) ∧ p5 = .pointer (some ⟨gc, 0, none⟩) ∧ p6 = .pointer (some ⟨gd, 0, none⟩) ∧ CellAt wx ⟨gc, 0, none⟩ (.bool cn) ∧ CellAt wx ⟨gc, 1, none⟩ (.slice mc xc.length cc) ∧ CellAt wx ⟨gd, 0, none⟩ (.bool dn) ∧ CellAt wx ⟨gd, 1, none⟩ (.slice md xd.length cd) ∧ Below w.heap.size w wx)
  case first =>
    skip
    have NB1 := hide (nboxes2 25 w1 (.bool cn) (.slice mc xc.length cc) (.bool dn) (.slice md xd.length cd))
    have NB2 := hide (nboxes2 25 w1 (.bool dn) (.slice md xd.length cd) (.bool cn) (.slice mc xc.length cc))
    go_region
    · go_wp2
      go_meet
      case rel => exact ⟨_, _, rfl, rfl, rfl, rfl, ⟨NB1.out.1.cell0⟩, ⟨NB1.out.1.cell1⟩, ⟨NB1.out.2.1.cell0⟩, ⟨NB1.out.2.1.cell1⟩, (HB.out.trans (NB1.out.2.2.mono HB.out.size)).drew⟩
    · go_wp2
      go_meet
      case rel => exact ⟨_, _, rfl, rfl, rfl, rfl, ⟨NB2.out.2.1.cell0⟩, ⟨NB2.out.2.1.cell1⟩, ⟨NB2.out.1.cell0⟩, ⟨NB2.out.1.cell1⟩, (HB.out.trans (NB2.out.2.2.mono HB.out.size)).drew⟩
  case rest =>
  obtain ⟨gc, gd, rfl, rfl, rfl, rfl, k0, k1, k2, k3, hb⟩ := hcut
  clear HB s0 s1 s2 s3 s4 s5 hlt6
  have HB := hide hb
  have C0 := hide k0
  have C1 := hide k1
  have C2 := hide k2
  have C3 := hide k3
  clear hb k0 k1 k2 k3
  generalize hwc : wc = w2 at *
  clear hwc
  have c0 := C0.out.out
  have c1 := C1.out.out
  have c2 := C2.out.out
  have c3 := C3.out.out
  go_wp2_with fail
  clear c0 c1 c2 c3
  have al := below_alloc w2 (.cells #[.bool cn, .slice mc xc.length cc, .bool dn, .slice md xd.length cd] 25)
  have NL2 := hide (numl2S w2 cn dn mc md cc cd xc xd 25 (N3.out.below HB.out) (N4.out.below HB.out) L3.out L4.out)
  replace HB := hide (HB.out.trans ((al).mono HB.out.size))
  replace C0 := hide (C0.out.step (al))
  replace C1 := hide (C1.out.step (al))
  replace C2 := hide (C2.out.step (al))
  replace C3 := hide (C3.out.step (al))
  clear al
  have hsz : (w2.alloc (.cells #[.bool cn, .slice mc xc.length cc, .bool dn, .slice md xd.length cd] 25)).heap.size = w2.heap.size + 1 := World.size_alloc _ _
  rw [← hsz]
  clear hsz
  generalize w2.alloc (.cells #[.bool cn, .slice mc xc.length cc, .bool dn, .slice md xd.length cd] 25) = w2a at *
  obtain ⟨gl, hgl⟩ : ∃ gl, w2.heap.size = gl := ⟨_, rfl⟩
  rw [hgl] at NL2 ⊢
  clear hgl
  refine (rlong_any _ [ns, ms, [(cn, xc), (dn, xd)]] _ (numll3S w2a _ _ _ ns ms [(cn, xc), (dn, xd)] 22 (N1.out.below HB.out) (N2.out.below HB.out) NL2.out)).mono ?_
  rintro e w3 ⟨⟨r, rfl, hr⟩, rfl⟩
  have al := below_alloc w2a (.cells #[(.slice aa ns.length ca), (.slice ab ms.length cb), .slice (some ⟨gl, 0, none⟩) 2 2] 22)
  replace HB := hide (HB.out.trans ((al).mono HB.out.size))
  replace C0 := hide (C0.out.step (al))
  replace C1 := hide (C1.out.step (al))
  replace C2 := hide (C2.out.step (al))
  replace C3 := hide (C3.out.step (al))
  clear al NL2
  generalize w2a.alloc (.cells #[(.slice aa ns.length ca), (.slice ab ms.length cb), .slice (some ⟨gl, 0, none⟩) 2 2] 22) = w3 at *
  cases r with
  | true =>
    go_wp2
    go_ret
    exact ⟨rfl, HB.out⟩
  | false =>
  have FA : Hid (Few ns) := hide (hr rfl 0 (by simp))
  have FC : Hid (Few ms) := hide (hr rfl 1 (by simp))
  have FD : Hid (Few [(cn, xc), (dn, xd)]) := hide (hr rfl 2 (by simp))
  clear hr
  have LC : Hid (xc.length ≤ 300) := hide (FD.out.2 0 (by simp))
  have LD : Hid (xd.length ≤ 300) := hide (FD.out.2 1 (by simp))
  clear FD
  go_wp2_with fail
  refine (rowof_any _ ns _ (N1.out.below HB.out) (Nat.le_trans FA.out.1 (by decide)) (few_lenMS FA.out)).mono ?_
  rintro e w4 ⟨vA, uA, rfl, hi, hr, hb⟩
  replace HB := hide (HB.out.trans ((hb).mono HB.out.size))
  replace C0 := hide (C0.out.step (hb))
  replace C1 := hide (C1.out.step (hb))
  replace C2 := hide (C2.out.step (hb))
  replace C3 := hide (C3.out.step (hb))
  have XA := hide hi
  have PA := hide hr
  clear hi hr hb
  go_wp2_with fail
  refine (rowof_any _ ms _ (N2.out.below HB.out) (Nat.le_trans FC.out.1 (by decide)) (few_lenMS FC.out)).mono ?_
  rintro e w5 ⟨vC, uC, rfl, hi, hr, hb⟩
  replace HB := hide (HB.out.trans ((hb).mono HB.out.size))
  replace C0 := hide (C0.out.step (hb))
  replace C1 := hide (C1.out.step (hb))
  replace C2 := hide (C2.out.step (hb))
  replace C3 := hide (C3.out.step (hb))
  replace XA := hide (XA.out.below (hb))
  replace PA := hide (PA.out.below (hb))
  have XC := hide hi
  have PC := hide hr
  clear hi hr hb
  have SX := hide (numsZ_sz N1.out FA.out)
  have SY := hide (numsZ_sz N2.out FC.out)
  have LX : Hid ((numsZ ns).length ≤ 300) := hide (by have := FA.out.1; simpa [numsZ] using this)
  have LY : Hid ((numsZ ms).length ≤ 300) := hide (by have := FC.out.1; simpa [numsZ] using this)
  have LNX : Hid ((numsZ ns).length = ns.length) := hide (by simp [numsZ])
  have LNY : Hid ((numsZ ms).length = ms.length) := hide (by simp [numsZ])
  have NC := hide (N3.out.below HB.out)
  have ND := hide (N4.out.below HB.out)
  have SM : Hid (SzI 300 (sg cn (val xc))) := hide (SzI.of N3.out.ok LC.out)
  have SN : Hid (SzI 300 (sg dn (val xd))) := hide (SzI.of N4.out.ok LD.out)
  clear N1 N2 N3 N4 FA FC L3 L4
  generalize numsZ ns = xs at *
  generalize numsZ ms = ys at *
  obtain ⟨m, hm⟩ : ∃ m, sg cn (val xc) = m := ⟨_, rfl⟩
  obtain ⟨n, hn⟩ : ∃ n, sg dn (val xd) = n := ⟨_, rfl⟩
  have HM := hide hm
  have HN := hide hn
  rw [hm] at SM
  rw [hn] at SN
  clear hm hn
  go_upto_region 8 with fail
  go_cut [11, 12] from 25 (fun p1 p2 wx => ∃ ga gb sa ma la ca' sb mb lb cb', p1 = .pointer (some ⟨ga, 0, none⟩) ∧ p2 = .pointer (some ⟨gb, 0, none⟩) ∧ Box wx ga (.bool sa) (.slice ma la ca') ∧ Box2 wx gb 39 (.bool sb) (.slice mb lb cb') ∧ IntAt wx (.agg #[.bool sa, .slice ma la ca']) m ∧ RInt wx (.agg #[.bool sb, .slice mb lb cb']) m ∧ Below w5.heap.size w5 wx)
  case first =>
    clear XA PA XC PC SX SY LX LY LNX LNY SM SN HB C2 C3 ND LD HN
    skip
    have hC0 := C0.out
    have hC1 := C1.out
    clear C0 C1
    refine wp_facts (MkJ8 w5 gc cn (.slice mc xc.length cc) m) 238 [11, 12, 52, 53, 54, 55, 56, 57, 58, 59, 60, 61] [0, 1, 2, 3, 4, 5, 6, 7, 8, 9, 10, 11, 12, 13] (by as_aux_lemma => kernel_rfl) rfl (by as_aux_lemma => kernel_rfl) (by as_aux_lemma => kernel_rfl) ?_ ?_ ?_
    · exact ⟨(Below.refl w5.heap.size w5).drew, rfl, no_yet, no_yet, no_yet, no_yet, no_yet, no_yet, no_yet, no_yet, no_yet, no_yet, no_yet, no_yet, no_yet, no_yet, no_yet, no_yet, no_yet⟩
    · intro i hi
      match i, hi with
      | 0, _ =>
        refine StepAt.of (need := []) (later := []) (k := 4) (d := some 52) rfl rfl (by as_aux_lemma => kernel_rfl) (by as_aux_lemma => kernel_rfl) ?_
        intro L T w ev a he hL hN hM hJ next hnext
        have e5 := (he.tmp 5).trans hJ.i5
        go_simp
        exact hnext _ _ ⟨hJ.bl, hJ.i5, fun _ => rfl, hJ.f1, hJ.f2, hJ.f3, hJ.f5, hJ.f6, hJ.f7, hJ.f8, hJ.f4, hJ.f9, hJ.p10, hJ.f10, hJ.p11, hJ.f11, hJ.n10_11, hJ.f12, hJ.f13⟩
      | 1, _ =>
        refine StepAt.of (need := [0]) (later := []) (k := 4) (d := some 53) rfl rfl (by as_aux_lemma => kernel_rfl) (by as_aux_lemma => kernel_rfl) ?_
        intro L T w ev a he hL hN hM hJ next hnext
        have e52 := (he.tmp 52).trans (hJ.f0 (hN.1))
        have f0 := (hC0.step hJ.bl).out
        have f1 := (hC1.step hJ.bl).out
        go_simp
        exact hnext _ _ ⟨hJ.bl, hJ.i5, hJ.f0, fun _ => rfl, hJ.f2, hJ.f3, hJ.f5, hJ.f6, hJ.f7, hJ.f8, hJ.f4, hJ.f9, hJ.p10, hJ.f10, hJ.p11, hJ.f11, hJ.n10_11, hJ.f12, hJ.f13⟩
      | 2, _ =>
        refine StepAt.of (need := []) (later := []) (k := 4) (d := some 54) rfl rfl (by as_aux_lemma => kernel_rfl) (by as_aux_lemma => kernel_rfl) ?_
        intro L T w ev a he hL hN hM hJ next hnext
        have e5 := (he.tmp 5).trans hJ.i5
        go_simp
        exact hnext _ _ ⟨hJ.bl, hJ.i5, hJ.f0, hJ.f1, fun _ => rfl, hJ.f3, hJ.f5, hJ.f6, hJ.f7, hJ.f8, hJ.f4, hJ.f9, hJ.p10, hJ.f10, hJ.p11, hJ.f11, hJ.n10_11, hJ.f12, hJ.f13⟩
      | 3, _ =>
        refine StepAt.of (need := [2]) (later := []) (k := 4) (d := some 55) rfl rfl (by as_aux_lemma => kernel_rfl) (by as_aux_lemma => kernel_rfl) ?_
        intro L T w ev a he hL hN hM hJ next hnext
        have e54 := (he.tmp 54).trans (hJ.f2 (hN.1))
        have f0 := (hC0.step hJ.bl).out
        have f1 := (hC1.step hJ.bl).out
        go_simp
        exact hnext _ _ ⟨hJ.bl, hJ.i5, hJ.f0, hJ.f1, hJ.f2, fun _ => rfl, hJ.f5, hJ.f6, hJ.f7, hJ.f8, hJ.f4, hJ.f9, hJ.p10, hJ.f10, hJ.p11, hJ.f11, hJ.n10_11, hJ.f12, hJ.f13⟩
      | 4, _ =>
        refine StepAt.of (need := [1, 3]) (later := [12]) (k := 4) (d := some 56) rfl rfl (by as_aux_lemma => kernel_rfl) (by as_aux_lemma => kernel_rfl) ?_
        intro L T w ev a he hL hN hM hJ next hnext
        have e53 := (he.tmp 53).trans (hJ.f1 (hN.1))
        have e55 := (he.tmp 55).trans (hJ.f3 (hN.2.1))
        have ef := he.func
        go_simp
        refine (make_any cn _ xc _ (NC.out.below hJ.bl) (by have := LC.out; omega)).mono ?_
        rintro e w' ⟨v, rfl, i, hb⟩
        rw [HM.out] at i
        exact hnext _ _ ⟨hJ.bl.trans ((hb).mono hJ.bl.size), hJ.i5, hJ.f0, hJ.f1, hJ.f2, hJ.f3, hJ.f5, hJ.f6, hJ.f7, hJ.f8, fun _ => i, fun h => (hJ.f9 h).below (hb), fun h => (hJ.p10 h).step (hb), fun h h' => (hJ.f10 h h').step (hb), fun h => (hJ.p11 h).step (hb), fun h h' => (hJ.f11 h h').step (hb), hJ.n10_11, fun h => clash (hM.1) h, fun h => (hJ.f13 h).step (hb)⟩
      | 5, _ =>
        refine StepAt.of (need := []) (later := []) (k := 4) (d := some 57) rfl rfl (by as_aux_lemma => kernel_rfl) (by as_aux_lemma => kernel_rfl) ?_
        intro L T w ev a he hL hN hM hJ next hnext
        have e5 := (he.tmp 5).trans hJ.i5
        go_simp
        exact hnext _ _ ⟨hJ.bl, hJ.i5, hJ.f0, hJ.f1, hJ.f2, hJ.f3, fun _ => rfl, hJ.f6, hJ.f7, hJ.f8, hJ.f4, hJ.f9, hJ.p10, hJ.f10, hJ.p11, hJ.f11, hJ.n10_11, hJ.f12, hJ.f13⟩
      | 6, _ =>
        refine StepAt.of (need := [5]) (later := []) (k := 4) (d := some 58) rfl rfl (by as_aux_lemma => kernel_rfl) (by as_aux_lemma => kernel_rfl) ?_
        intro L T w ev a he hL hN hM hJ next hnext
        have e57 := (he.tmp 57).trans (hJ.f5 (hN.1))
        have f0 := (hC0.step hJ.bl).out
        have f1 := (hC1.step hJ.bl).out
        go_simp
        exact hnext _ _ ⟨hJ.bl, hJ.i5, hJ.f0, hJ.f1, hJ.f2, hJ.f3, hJ.f5, fun _ => rfl, hJ.f7, hJ.f8, hJ.f4, hJ.f9, hJ.p10, hJ.f10, hJ.p11, hJ.f11, hJ.n10_11, hJ.f12, hJ.f13⟩
      | 7, _ =>
        refine StepAt.of (need := []) (later := []) (k := 4) (d := some 59) rfl rfl (by as_aux_lemma => kernel_rfl) (by as_aux_lemma => kernel_rfl) ?_
        intro L T w ev a he hL hN hM hJ next hnext
        have e5 := (he.tmp 5).trans hJ.i5
        go_simp
        exact hnext _ _ ⟨hJ.bl, hJ.i5, hJ.f0, hJ.f1, hJ.f2, hJ.f3, hJ.f5, hJ.f6, fun _ => rfl, hJ.f8, hJ.f4, hJ.f9, hJ.p10, hJ.f10, hJ.p11, hJ.f11, hJ.n10_11, hJ.f12, hJ.f13⟩
      | 8, _ =>
        refine StepAt.of (need := [7]) (later := []) (k := 4) (d := some 60) rfl rfl (by as_aux_lemma => kernel_rfl) (by as_aux_lemma => kernel_rfl) ?_
        intro L T w ev a he hL hN hM hJ next hnext
        have e59 := (he.tmp 59).trans (hJ.f7 (hN.1))
        have f0 := (hC0.step hJ.bl).out
        have f1 := (hC1.step hJ.bl).out
        go_simp
        exact hnext _ _ ⟨hJ.bl, hJ.i5, hJ.f0, hJ.f1, hJ.f2, hJ.f3, hJ.f5, hJ.f6, hJ.f7, fun _ => rfl, hJ.f4, hJ.f9, hJ.p10, hJ.f10, hJ.p11, hJ.f11, hJ.n10_11, hJ.f12, hJ.f13⟩
      | 9, _ =>
        refine StepAt.of (need := [6, 8]) (later := [13]) (k := 4) (d := some 61) rfl rfl (by as_aux_lemma => kernel_rfl) (by as_aux_lemma => kernel_rfl) ?_
        intro L T w ev a he hL hN hM hJ next hnext
        have e58 := (he.tmp 58).trans (hJ.f6 (hN.1))
        have e60 := (he.tmp 60).trans (hJ.f8 (hN.2.1))
        have ef := he.func
        go_simp
        refine (rmake_any cn _ xc _ (NC.out.below hJ.bl) (by have := LC.out; omega)).mono ?_
        rintro e w' ⟨v, rfl, i, hb⟩
        rw [HM.out] at i
        exact hnext _ _ ⟨hJ.bl.trans ((hb).mono hJ.bl.size), hJ.i5, hJ.f0, hJ.f1, hJ.f2, hJ.f3, hJ.f5, hJ.f6, hJ.f7, hJ.f8, fun h => (hJ.f4 h).below (hb), fun _ => i, fun h => (hJ.p10 h).step (hb), fun h h' => (hJ.f10 h h').step (hb), fun h => (hJ.p11 h).step (hb), fun h h' => (hJ.f11 h h').step (hb), hJ.n10_11, fun h => (hJ.f12 h).step (hb), fun h => clash (hM.1) h⟩
      | 10, _ =>
        refine StepAt.of (need := []) (later := [12]) (k := 4) (d := some 11) rfl rfl (by as_aux_lemma => kernel_rfl) (by as_aux_lemma => kernel_rfl) ?_
        intro L T w ev a he hL hN hM hJ next hnext
        go_simp
        have hb := below_alloc w (.cells #[.bool false, .slice none 0 0] 36)
        exact hnext _ _ ⟨hJ.bl.trans ((hb).mono hJ.bl.size), hJ.i5, hJ.f0, hJ.f1, hJ.f2, hJ.f3, hJ.f5, hJ.f6, hJ.f7, hJ.f8, fun h => (hJ.f4 h).below (hb), fun h => (hJ.f9 h).below (hb), fun _ => PS.new hJ.bl.size _, fun _ _ => PB.new hJ.bl.size _ _ _, fun h => (hJ.p11 h).step (hb), fun h h' => (hJ.f11 h h').step (hb), fun _ h => Ne.symm (hJ.p11 h).ne, fun h => clash (hM.1) h, fun h => (hJ.f13 h).step (hb)⟩
      | 11, _ =>
        refine StepAt.of (need := []) (later := [13]) (k := 4) (d := some 12) rfl rfl (by as_aux_lemma => kernel_rfl) (by as_aux_lemma => kernel_rfl) ?_
        intro L T w ev a he hL hN hM hJ next hnext
        go_simp
        have hb := below_alloc w (.cells #[.bool false, .slice none 0 0] 39)
        exact hnext _ _ ⟨hJ.bl.trans ((hb).mono hJ.bl.size), hJ.i5, hJ.f0, hJ.f1, hJ.f2, hJ.f3, hJ.f5, hJ.f6, hJ.f7, hJ.f8, fun h => (hJ.f4 h).below (hb), fun h => (hJ.f9 h).below (hb), fun h => (hJ.p10 h).step (hb), fun h h' => (hJ.f10 h h').step (hb), fun _ => PS.new hJ.bl.size _, fun _ _ => PB.new hJ.bl.size _ _ _, fun h _ => (hJ.p10 h).ne, fun h => (hJ.f12 h).step (hb), fun h => clash (hM.1) h⟩
      | 12, _ =>
        refine StepAt.of (need := [10, 4, 11]) (later := []) (k := 4) (d := none) rfl rfl (by as_aux_lemma => kernel_rfl) (by as_aux_lemma => kernel_rfl) ?_
        intro L T w ev a he hL hN hM hJ next hnext
        obtain ⟨g, hg, hge, hbx⟩ := hJ.f10 (hN.1) hL
        obtain ⟨sv, mv, nv, cv, hv, iv⟩ := (hJ.f4 (hN.2.1)).cells
        have e11 := (he.tmp 11).trans hg
        have e56 := (he.tmp 56).trans hv
        have hc0 := hbx.cell0
        have hc1 := hbx.cell1
        have hf0 := hbx.free 0
        have hf1 := hbx.free 1
        have hk := box2_keeps hbx (by simp) (by simp) (.bool sv) (.slice mv nv cv)
        go_simp
        exact hnext undef _ ⟨below_put hJ.bl hge (.bool sv) (.slice mv nv cv), hJ.i5, hJ.f0, hJ.f1, hJ.f2, hJ.f3, hJ.f5, hJ.f6, hJ.f7, hJ.f8, fun h => (hJ.f4 h).keep hk, fun h => (hJ.f9 h).keep hk, fun h => (hJ.p10 h).put (.bool sv) (.slice mv nv cv), fun _ h => no_more h, fun h => (hJ.p11 h).put (.bool sv) (.slice mv nv cv), fun h h' => (hJ.f11 h h').put hg (hJ.n10_11 (hN.1) (hN.2.2.1)) (.bool sv) (.slice mv nv cv), hJ.n10_11, fun _ => PV.set' hg hv hbx hge, fun h => (hJ.f13 h).put hg (hJ.n10_11 (hN.1) (hN.2.2.1)) (.bool sv) (.slice mv nv cv)⟩
      | 13, _ =>
        refine StepAt.of (need := [11, 9, 10]) (later := []) (k := 4) (d := none) rfl rfl (by as_aux_lemma => kernel_rfl) (by as_aux_lemma => kernel_rfl) ?_
        intro L T w ev a he hL hN hM hJ next hnext
        obtain ⟨g, hg, hge, hbx⟩ := hJ.f11 (hN.1) hL
        obtain ⟨sv, mv, nv, cv, hv, iv⟩ := (hJ.f9 (hN.2.1)).cellsW
        have e12 := (he.tmp 12).trans hg
        have e61 := (he.tmp 61).trans hv
        have hc0 := hbx.cell0
        have hc1 := hbx.cell1
        have hf0 := hbx.free 0
        have hf1 := hbx.free 1
        have hk := box2_keeps hbx (by simp) (by simp) (.bool sv) (.slice mv nv cv)
        go_simp
        exact hnext undef _ ⟨below_put hJ.bl hge (.bool sv) (.slice mv nv cv), hJ.i5, hJ.f0, hJ.f1, hJ.f2, hJ.f3, hJ.f5, hJ.f6, hJ.f7, hJ.f8, fun h => (hJ.f4 h).keep hk, fun h => (hJ.f9 h).keep hk, fun h => (hJ.p10 h).put (.bool sv) (.slice mv nv cv), fun h h' => (hJ.f10 h h').put hg (Ne.symm (hJ.n10_11 (hN.2.2.1) (hN.1))) (.bool sv) (.slice mv nv cv), fun h => (hJ.p11 h).put (.bool sv) (.slice mv nv cv), fun _ h => no_more h, hJ.n10_11, fun h => (hJ.f12 h).put hg (Ne.symm (hJ.n10_11 (hN.2.2.1) (hN.1))) (.bool sv) (.slice mv nv cv), fun _ => PV.set' hg hv hbx hge⟩
      | k + 14, hi => exact absurd hi (Nat.not_lt.2 (Nat.le_add_left 14 k))
    · intro L a w hA hJ hs hd hf
      have hA12 := hA.2.2.2.2.2.2.2.2.2.2.2.2.1
      have hA13 := hA.2.2.2.2.2.2.2.2.2.2.2.2.2.1
      have hA4 := hA.2.2.2.2.1
      have hA9 := hA.2.2.2.2.2.2.2.2.2.1
      obtain ⟨ga, sa, ma, la, ca', hp1, _, hv1, b1⟩ := hJ.f12 (hA12)
      obtain ⟨gb, sb, mb, lb, cb', hp2, _, hv2, b2⟩ := hJ.f13 (hA13)
      have i1 := hJ.f4 hA4
      have i2 := hJ.f9 hA9
      rw [hv1] at i1
      rw [hv2] at i2
      refine (by assumption : ∀ a' w', Met _ a' w' → _) _ _ (Met.intro ((by assumption : ∀ a' w', _ → _) _ _ ?_))
      exact ⟨a.tmps.getD 11 undef, a.tmps.getD 12 undef, a.tmps.getD 25 undef, a.tmps.getD 26 undef, a.tmps.getD 27 undef, a.tmps.getD 28 undef, a.tmps.getD 29 undef, a.tmps.getD 30 undef, a.tmps.getD 31 undef, a.tmps.getD 32 undef, a.tmps.getD 33 undef, a.tmps.getD 34 undef, a.tmps.getD 35 undef, a.tmps.getD 36 undef, a.tmps.getD 37 undef, a.tmps.getD 38 undef, a.tmps.getD 39 undef, a.tmps.getD 40 undef, a.tmps.getD 41 undef, a.tmps.getD 42 undef, a.tmps.getD 43 undef, a.tmps.getD 44 undef, a.tmps.getD 45 undef, a.tmps.getD 46 undef, a.tmps.getD 47 undef, a.tmps.getD 48 undef, a.tmps.getD 49 undef, a.tmps.getD 50 undef, a.tmps.getD 51 undef, a.tmps.getD 52 undef, a.tmps.getD 53 undef, a.tmps.getD 54 undef, a.tmps.getD 55 undef, a.tmps.getD 56 undef, a.tmps.getD 57 undef, a.tmps.getD 58 undef, a.tmps.getD 59 undef, a.tmps.getD 60 undef, a.tmps.getD 61 undef, a.tmps.getD 62 undef, a.tmps.getD 63 undef, a.tmps.getD 64 undef, a.tmps.getD 65 undef, a.tmps.getD 66 undef, a.tmps.getD 67 undef, a.tmps.getD 68 undef, a.tmps.getD 69 undef, a.tmps.getD 70 undef, a.tmps.getD 71 undef, a.tmps.getD 72 undef, a.tmps.getD 73 undef, a.tmps.getD 74 undef, a.tmps.getD 75 undef, a.tmps.getD 76 undef, a.tmps.getD 77 undef, a.tmps.getD 78 undef, a.tmps.getD 79 undef, a.tmps.getD 80 undef, a.tmps.getD 81 undef, a.tmps.getD 82 undef, a.tmps.getD 83 undef, a.tmps.getD 84 undef, a.tmps.getD 85 undef, a.tmps.getD 86 undef, a.tmps.getD 87 undef, a.tmps.getD 88 undef, a.tmps.getD 89 undef, a.tmps.getD 90 undef, a.tmps.getD 91 undef, a.tmps.getD 92 undef, a.tmps.getD 93 undef, a.tmps.getD 94 undef, a.tmps.getD 95 undef, a.tmps.getD 96 undef, a.tmps.getD 97 undef, a.tmps.getD 98 undef, a.tmps.getD 99 undef, a.tmps.getD 100 undef, a.tmps.getD 101 undef, a.tmps.getD 102 undef, a.tmps.getD 103 undef, a.tmps.getD 104 undef, a.tmps.getD 105 undef, a.tmps.getD 106 undef, a.tmps.getD 107 undef, a.tmps.getD 108 undef, a.tmps.getD 109 undef, a.tmps.getD 110 undef, a.tmps.getD 111 undef, a.tmps.getD 112 undef, a.tmps.getD 113 undef, a.tmps.getD 114 undef, a.tmps.getD 115 undef, a.tmps.getD 116 undef, a.tmps.getD 117 undef, a.tmps.getD 118 undef, a.tmps.getD 119 undef, a.tmps.getD 120 undef, a.tmps.getD 121 undef, a.tmps.getD 122 undef, a.tmps.getD 123 undef, a.tmps.getD 124 undef, a.tmps.getD 125 undef, a.tmps.getD 126 undef, a.tmps.getD 127 undef, a.tmps.getD 128 undef, a.tmps.getD 129 undef, a.tmps.getD 130 undef, a.tmps.getD 131 undef, a.tmps.getD 132 undef, a.tmps.getD 133 undef, a.tmps.getD 134 undef, a.tmps.getD 135 undef, a.tmps.getD 136 undef, a.tmps.getD 137 undef, a.tmps.getD 138 undef, a.tmps.getD 139 undef, a.tmps.getD 140 undef, a.tmps.getD 141 undef, a.tmps.getD 142 undef, a.tmps.getD 143 undef, a.tmps.getD 144 undef, a.tmps.getD 145 undef, a.tmps.getD 146 undef, a.tmps.getD 147 undef, a.tmps.getD 148 undef, a.tmps.getD 149 undef, a.tmps.getD 150 undef, a.tmps.getD 151 undef, a.tmps.getD 152 undef, a.tmps.getD 153 undef, a.tmps.getD 154 undef, a.tmps.getD 155 undef, a.tmps.getD 156 undef, a.tmps.getD 157 undef, a.tmps.getD 158 undef, a.tmps.getD 159 undef, a.tmps.getD 160 undef, a.tmps.getD 161 undef, a.tmps.getD 162 undef, a.tmps.getD 163 undef, a.tmps.getD 164 undef, a.tmps.getD 165 undef, a.tmps.getD 166 undef, a.tmps.getD 167 undef, a.tmps.getD 168 undef, a.tmps.getD 169 undef, a.tmps.getD 170 undef, a.tmps.getD 171 undef, a.tmps.getD 172 undef, a.tmps.getD 173 undef, a.tmps.getD 174 undef, a.tmps.getD 175 undef, a.tmps.getD 176 undef, a.tmps.getD 177 undef, a.tmps.getD 178 undef, a.tmps.getD 179 undef, a.tmps.getD 180 undef, a.tmps.getD 181 undef, a.tmps.getD 182 undef, a.tmps.getD 183 undef, a.tmps.getD 184 undef, a.tmps.getD 185 undef, a.tmps.getD 186 undef, a.tmps.getD 187 undef, a.tmps.getD 188 undef, a.tmps.getD 189 undef, a.tmps.getD 190 undef, a.tmps.getD 191 undef, a.tmps.getD 192 undef, a.tmps.getD 193 undef, a.tmps.getD 194 undef, a.tmps.getD 195 undef, a.tmps.getD 196 undef, a.tmps.getD 197 undef, a.tmps.getD 198 undef, a.tmps.getD 199 undef, a.tmps.getD 200 undef, a.tmps.getD 201 undef, a.tmps.getD 202 undef, a.tmps.getD 203 undef, a.tmps.getD 204 undef, a.tmps.getD 205 undef, a.tmps.getD 206 undef, a.tmps.getD 207 undef, a.tmps.getD 208 undef, a.tmps.getD 209 undef, a.tmps.getD 210 undef, a.tmps.getD 211 undef, a.tmps.getD 212 undef, a.tmps.getD 213 undef, a.tmps.getD 214 undef, a.tmps.getD 215 undef, a.tmps.getD 216 undef, a.tmps.getD 217 undef, a.tmps.getD 218 undef, a.tmps.getD 219 undef, a.tmps.getD 220 undef, a.tmps.getD 221 undef, a.tmps.getD 222 undef, a.tmps.getD 223 undef, a.tmps.getD 224 undef, a.tmps.getD 225 undef, a.tmps.getD 226 undef, a.tmps.getD 227 undef, a.tmps.getD 228 undef, a.tmps.getD 229 undef, a.tmps.getD 230 undef, a.tmps.getD 231 undef, a.tmps.getD 232 undef, a.tmps.getD 233 undef, a.tmps.getD 234 undef, a.tmps.getD 235 undef, a.tmps.getD 236 undef, a.tmps.getD 237 undef, ⟨ga, gb, sa, ma, la, ca', sb, mb, lb, cb', hp1, hp2, b1, b2, i1, i2, hJ.bl⟩, act_eq _ _ [11, 12, 25, 26, 27, 28, 29, 30, 31, 32, 33, 34, 35, 36, 37, 38, 39, 40, 41, 42, 43, 44, 45, 46, 47, 48, 49, 50, 51, 52, 53, 54, 55, 56, 57, 58, 59, 60, 61, 62, 63, 64, 65, 66, 67, 68, 69, 70, 71, 72, 73, 74, 75, 76, 77, 78, 79, 80, 81, 82, 83, 84, 85, 86, 87, 88, 89, 90, 91, 92, 93, 94, 95, 96, 97, 98, 99, 100, 101, 102, 103, 104, 105, 106, 107, 108, 109, 110, 111, 112, 113, 114, 115, 116, 117, 118, 119, 120, 121, 122, 123, 124, 125, 126, 127, 128, 129, 130, 131, 132, 133, 134, 135, 136, 137, 138, 139, 140, 141, 142, 143, 144, 145, 146, 147, 148, 149, 150, 151, 152, 153, 154, 155, 156, 157, 158, 159, 160, 161, 162, 163, 164, 165, 166, 167, 168, 169, 170, 171, 172, 173, 174, 175, 176, 177, 178, 179, 180, 181, 182, 183, 184, 185, 186, 187, 188, 189, 190, 191, 192, 193, 194, 195, 196, 197, 198, 199, 200, 201, 202, 203, 204, 205, 206, 207, 208, 209, 210, 211, 212, 213, 214, 215, 216, 217, 218, 219, 220, 221, 222, 223, 224, 225, 226, 227, 228, 229, 230, 231, 232, 233, 234, 235, 236, 237] hf (by as_aux_lemma => kernel_rfl) (hs.trans (by as_aux_lemma => kernel_rfl)) hd (by as_aux_lemma => kernel_rfl)⟩
  case rest =>
  obtain ⟨ga1, gb1, sa1, ma1, la1, ka1, sb1, mb1, lb1, kb1, rfl, rfl, ba, bb, ia, ib, hb⟩ := hcut
  replace HB := hide (HB.out.trans ((hb).mono HB.out.size))
  replace C0 := hide (C0.out.step (hb))
  replace C1 := hide (C1.out.step (hb))
  replace C2 := hide (C2.out.step (hb))
  replace C3 := hide (C3.out.step (hb))
  replace XA := hide (XA.out.below (hb))
  replace PA := hide (PA.out.below (hb))
  replace XC := hide (XC.out.below (hb))
  replace PC := hide (PC.out.below (hb))
  replace NC := hide (NC.out.below (hb))
  replace ND := hide (ND.out.below (hb))
  have Va1 := hide ba
  have Vb1 := hide bb
  have Ia1 := hide ia
  have Ib1 := hide ib
  clear ba bb ia ib hb
  generalize hwc : wc = wq1 at *
  clear hwc
  skip
  go_upto_region 9 with fail
  go_cut [13, 14] from 25 (fun p1 p2 wx => ∃ ga gb sa ma la ca' sb mb lb cb', p1 = .pointer (some ⟨ga, 0, none⟩) ∧ p2 = .pointer (some ⟨gb, 0, none⟩) ∧ Box wx ga (.bool sa) (.slice ma la ca') ∧ Box2 wx gb 39 (.bool sb) (.slice mb lb cb') ∧ IntAt wx (.agg #[.bool sa, .slice ma la ca']) n ∧ RInt wx (.agg #[.bool sb, .slice mb lb cb']) n ∧ Below wq1.heap.size wq1 wx)
  case first =>
    clear XA PA XC PC SX SY LX LY LNX LNY SM SN HB C0 C1 NC LC HM Va1 Vb1 Ia1 Ib1
    skip
    have hC0 := C2.out
    have hC1 := C3.out
    clear C2 C3
    refine wp_facts (MkJ9 wq1 gd dn (.slice md xd.length cd) n) 238 [13, 14, 62, 63, 64, 65, 66, 67, 68, 69, 70, 71] [0, 1, 2, 3, 4, 5, 6, 7, 8, 9, 10, 11, 12, 13] (by as_aux_lemma => kernel_rfl) rfl (by as_aux_lemma => kernel_rfl) (by as_aux_lemma => kernel_rfl) ?_ ?_ ?_
    · exact ⟨(Below.refl wq1.heap.size wq1).drew, rfl, no_yet, no_yet, no_yet, no_yet, no_yet, no_yet, no_yet, no_yet, no_yet, no_yet, no_yet, no_yet, no_yet, no_yet, no_yet, no_yet, no_yet⟩
    · intro i hi
      match i, hi with
      | 0, _ =>
        refine StepAt.of (need := []) (later := []) (k := 4) (d := some 62) rfl rfl (by as_aux_lemma => kernel_rfl) (by as_aux_lemma => kernel_rfl) ?_
        intro L T w ev a he hL hN hM hJ next hnext
        have e6 := (he.tmp 6).trans hJ.i6
        go_simp
        exact hnext _ _ ⟨hJ.bl, hJ.i6, fun _ => rfl, hJ.f1, hJ.f2, hJ.f3, hJ.f5, hJ.f6, hJ.f7, hJ.f8, hJ.f4, hJ.f9, hJ.p10, hJ.f10, hJ.p11, hJ.f11, hJ.n10_11, hJ.f12, hJ.f13⟩
      | 1, _ =>
        refine StepAt.of (need := [0]) (later := []) (k := 4) (d := some 63) rfl rfl (by as_aux_lemma => kernel_rfl) (by as_aux_lemma => kernel_rfl) ?_
        intro L T w ev a he hL hN hM hJ next hnext
        have e62 := (he.tmp 62).trans (hJ.f0 (hN.1))
        have f0 := (hC0.step hJ.bl).out
        have f1 := (hC1.step hJ.bl).out
        go_simp
        exact hnext _ _ ⟨hJ.bl, hJ.i6, hJ.f0, fun _ => rfl, hJ.f2, hJ.f3, hJ.f5, hJ.f6, hJ.f7, hJ.f8, hJ.f4, hJ.f9, hJ.p10, hJ.f10, hJ.p11, hJ.f11, hJ.n10_11, hJ.f12, hJ.f13⟩
      | 2, _ =>
        refine StepAt.of (need := []) (later := []) (k := 4) (d := some 64) rfl rfl (by as_aux_lemma => kernel_rfl) (by as_aux_lemma => kernel_rfl) ?_
        intro L T w ev a he hL hN hM hJ next hnext
        have e6 := (he.tmp 6).trans hJ.i6
        go_simp
        exact hnext _ _ ⟨hJ.bl, hJ.i6, hJ.f0, hJ.f1, fun _ => rfl, hJ.f3, hJ.f5, hJ.f6, hJ.f7, hJ.f8, hJ.f4, hJ.f9, hJ.p10, hJ.f10, hJ.p11, hJ.f11, hJ.n10_11, hJ.f12, hJ.f13⟩
      | 3, _ =>
        refine StepAt.of (need := [2]) (later := []) (k := 4) (d := some 65) rfl rfl (by as_aux_lemma => kernel_rfl) (by as_aux_lemma => kernel_rfl) ?_
        intro L T w ev a he hL hN hM hJ next hnext
        have e64 := (he.tmp 64).trans (hJ.f2 (hN.1))
        have f0 := (hC0.step hJ.bl).out
        have f1 := (hC1.step hJ.bl).out
        go_simp
        exact hnext _ _ ⟨hJ.bl, hJ.i6, hJ.f0, hJ.f1, hJ.f2, fun _ => rfl, hJ.f5, hJ.f6, hJ.f7, hJ.f8, hJ.f4, hJ.f9, hJ.p10, hJ.f10, hJ.p11, hJ.f11, hJ.n10_11, hJ.f12, hJ.f13⟩
      | 4, _ =>
        refine StepAt.of (need := [1, 3]) (later := [12]) (k := 4) (d := some 66) rfl rfl (by as_aux_lemma => kernel_rfl) (by as_aux_lemma => kernel_rfl) ?_
        intro L T w ev a he hL hN hM hJ next hnext
        have e63 := (he.tmp 63).trans (hJ.f1 (hN.1))
        have e65 := (he.tmp 65).trans (hJ.f3 (hN.2.1))
        have ef := he.func
        go_simp
        refine (make_any dn _ xd _ (ND.out.below hJ.bl) (by have := LD.out; omega)).mono ?_
        rintro e w' ⟨v, rfl, i, hb⟩
        rw [HN.out] at i
        exact hnext _ _ ⟨hJ.bl.trans ((hb).mono hJ.bl.size), hJ.i6, hJ.f0, hJ.f1, hJ.f2, hJ.f3, hJ.f5, hJ.f6, hJ.f7, hJ.f8, fun _ => i, fun h => (hJ.f9 h).below (hb), fun h => (hJ.p10 h).step (hb), fun h h' => (hJ.f10 h h').step (hb), fun h => (hJ.p11 h).step (hb), fun h h' => (hJ.f11 h h').step (hb), hJ.n10_11, fun h => clash (hM.1) h, fun h => (hJ.f13 h).step (hb)⟩
      | 5, _ =>
        refine StepAt.of (need := []) (later := []) (k := 4) (d := some 67) rfl rfl (by as_aux_lemma => kernel_rfl) (by as_aux_lemma => kernel_rfl) ?_
        intro L T w ev a he hL hN hM hJ next hnext
        have e6 := (he.tmp 6).trans hJ.i6
        go_simp
        exact hnext _ _ ⟨hJ.bl, hJ.i6, hJ.f0, hJ.f1, hJ.f2, hJ.f3, fun _ => rfl, hJ.f6, hJ.f7, hJ.f8, hJ.f4, hJ.f9, hJ.p10, hJ.f10, hJ.p11, hJ.f11, hJ.n10_11, hJ.f12, hJ.f13⟩
      | 6, _ =>
        refine StepAt.of (need := [5]) (later := []) (k := 4) (d := some 68) rfl rfl (by as_aux_lemma => kernel_rfl) (by as_aux_lemma => kernel_rfl) ?_
        intro L T w ev a he hL hN hM hJ next hnext
        have e67 := (he.tmp 67).trans (hJ.f5 (hN.1))
        have f0 := (hC0.step hJ.bl).out
        have f1 := (hC1.step hJ.bl).out
        go_simp
        exact hnext _ _ ⟨hJ.bl, hJ.i6, hJ.f0, hJ.f1, hJ.f2, hJ.f3, hJ.f5, fun _ => rfl, hJ.f7, hJ.f8, hJ.f4, hJ.f9, hJ.p10, hJ.f10, hJ.p11, hJ.f11, hJ.n10_11, hJ.f12, hJ.f13⟩
      | 7, _ =>
        refine StepAt.of (need := []) (later := []) (k := 4) (d := some 69) rfl rfl (by as_aux_lemma => kernel_rfl) (by as_aux_lemma => kernel_rfl) ?_
        intro L T w ev a he hL hN hM hJ next hnext
        have e6 := (he.tmp 6).trans hJ.i6
        go_simp
        exact hnext _ _ ⟨hJ.bl, hJ.i6, hJ.f0, hJ.f1, hJ.f2, hJ.f3, hJ.f5, hJ.f6, fun _ => rfl, hJ.f8, hJ.f4, hJ.f9, hJ.p10, hJ.f10, hJ.p11, hJ.f11, hJ.n10_11, hJ.f12, hJ.f13⟩
      | 8, _ =>
        refine StepAt.of (need := [7]) (later := []) (k := 4) (d := some 70) rfl rfl (by as_aux_lemma => kernel_rfl) (by as_aux_lemma => kernel_rfl) ?_
        intro L T w ev a he hL hN hM hJ next hnext
        have e69 := (he.tmp 69).trans (hJ.f7 (hN.1))
        have f0 := (hC0.step hJ.bl).out
        have f1 := (hC1.step hJ.bl).out
        go_simp
        exact hnext _ _ ⟨hJ.bl, hJ.i6, hJ.f0, hJ.f1, hJ.f2, hJ.f3, hJ.f5, hJ.f6, hJ.f7, fun _ => rfl, hJ.f4, hJ.f9, hJ.p10, hJ.f10, hJ.p11, hJ.f11, hJ.n10_11, hJ.f12, hJ.f13⟩
      | 9, _ =>
        refine StepAt.of (need := [6, 8]) (later := [13]) (k := 4) (d := some 71) rfl rfl (by as_aux_lemma => kernel_rfl) (by as_aux_lemma => kernel_rfl) ?_
        intro L T w ev a he hL hN hM hJ next hnext
        have e68 := (he.tmp 68).trans (hJ.f6 (hN.1))
        have e70 := (he.tmp 70).trans (hJ.f8 (hN.2.1))
        have ef := he.func
        go_simp
        refine (rmake_any dn _ xd _ (ND.out.below hJ.bl) (by have := LD.out; omega)).mono ?_
        rintro e w' ⟨v, rfl, i, hb⟩
        rw [HN.out] at i
        exact hnext _ _ ⟨hJ.bl.trans ((hb).mono hJ.bl.size), hJ.i6, hJ.f0, hJ.f1, hJ.f2, hJ.f3, hJ.f5, hJ.f6, hJ.f7, hJ.f8, fun h => (hJ.f4 h).below (hb), fun _ => i, fun h => (hJ.p10 h).step (hb), fun h h' => (hJ.f10 h h').step (hb), fun h => (hJ.p11 h).step (hb), fun h h' => (hJ.f11 h h').step (hb), hJ.n10_11, fun h => (hJ.f12 h).step (hb), fun h => clash (hM.1) h⟩
      | 10, _ =>
        refine StepAt.of (need := []) (later := [12]) (k := 4) (d := some 13) rfl rfl (by as_aux_lemma => kernel_rfl) (by as_aux_lemma => kernel_rfl) ?_
        intro L T w ev a he hL hN hM hJ next hnext
        go_simp
        have hb := below_alloc w (.cells #[.bool false, .slice none 0 0] 36)
        exact hnext _ _ ⟨hJ.bl.trans ((hb).mono hJ.bl.size), hJ.i6, hJ.f0, hJ.f1, hJ.f2, hJ.f3, hJ.f5, hJ.f6, hJ.f7, hJ.f8, fun h => (hJ.f4 h).below (hb), fun h => (hJ.f9 h).below (hb), fun _ => PS.new hJ.bl.size _, fun _ _ => PB.new hJ.bl.size _ _ _, fun h => (hJ.p11 h).step (hb), fun h h' => (hJ.f11 h h').step (hb), fun _ h => Ne.symm (hJ.p11 h).ne, fun h => clash (hM.1) h, fun h => (hJ.f13 h).step (hb)⟩
      | 11, _ =>
        refine StepAt.of (need := []) (later := [13]) (k := 4) (d := some 14) rfl rfl (by as_aux_lemma => kernel_rfl) (by as_aux_lemma => kernel_rfl) ?_
        intro L T w ev a he hL hN hM hJ next hnext
        go_simp
        have hb := below_alloc w (.cells #[.bool false, .slice none 0 0] 39)
        exact hnext _ _ ⟨hJ.bl.trans ((hb).mono hJ.bl.size), hJ.i6, hJ.f0, hJ.f1, hJ.f2, hJ.f3, hJ.f5, hJ.f6, hJ.f7, hJ.f8, fun h => (hJ.f4 h).below (hb), fun h => (hJ.f9 h).below (hb), fun h => (hJ.p10 h).step (hb), fun h h' => (hJ.f10 h h').step (hb), fun _ => PS.new hJ.bl.size _, fun _ _ => PB.new hJ.bl.size _ _ _, fun h _ => (hJ.p10 h).ne, fun h => (hJ.f12 h).step (hb), fun h => clash (hM.1) h⟩
      | 12, _ =>
        refine StepAt.of (need := [10, 4, 11]) (later := []) (k := 4) (d := none) rfl rfl (by as_aux_lemma => kernel_rfl) (by as_aux_lemma => kernel_rfl) ?_
        intro L T w ev a he hL hN hM hJ next hnext
        obtain ⟨g, hg, hge, hbx⟩ := hJ.f10 (hN.1) hL
        obtain ⟨sv, mv, nv, cv, hv, iv⟩ := (hJ.f4 (hN.2.1)).cells
        have e13 := (he.tmp 13).trans hg
        have e66 := (he.tmp 66).trans hv
        have hc0 := hbx.cell0
        have hc1 := hbx.cell1
        have hf0 := hbx.free 0
        have hf1 := hbx.free 1
        have hk := box2_keeps hbx (by simp) (by simp) (.bool sv) (.slice mv nv cv)
        go_simp
        exact hnext undef _ ⟨below_put hJ.bl hge (.bool sv) (.slice mv nv cv), hJ.i6, hJ.f0, hJ.f1, hJ.f2, hJ.f3, hJ.f5, hJ.f6, hJ.f7, hJ.f8, fun h => (hJ.f4 h).keep hk, fun h => (hJ.f9 h).keep hk, fun h => (hJ.p10 h).put (.bool sv) (.slice mv nv cv), fun _ h => no_more h, fun h => (hJ.p11 h).put (.bool sv) (.slice mv nv cv), fun h h' => (hJ.f11 h h').put hg (hJ.n10_11 (hN.1) (hN.2.2.1)) (.bool sv) (.slice mv nv cv), hJ.n10_11, fun _ => PV.set' hg hv hbx hge, fun h => (hJ.f13 h).put hg (hJ.n10_11 (hN.1) (hN.2.2.1)) (.bool sv) (.slice mv nv cv)⟩
      | 13, _ =>
        refine StepAt.of (need := [11, 9, 10]) (later := []) (k := 4) (d := none) rfl rfl (by as_aux_lemma => kernel_rfl) (by as_aux_lemma => kernel_rfl) ?_
        intro L T w ev a he hL hN hM hJ next hnext
        obtain ⟨g, hg, hge, hbx⟩ := hJ.f11 (hN.1) hL
        obtain ⟨sv, mv, nv, cv, hv, iv⟩ := (hJ.f9 (hN.2.1)).cellsW
        have e14 := (he.tmp 14).trans hg
        have e71 := (he.tmp 71).trans hv
        have hc0 := hbx.cell0
        have hc1 := hbx.cell1
        have hf0 := hbx.free 0
        have hf1 := hbx.free 1
        have hk := box2_keeps hbx (by simp) (by simp) (.bool sv) (.slice mv nv cv)
        go_simp
        exact hnext undef _ ⟨below_put hJ.bl hge (.bool sv) (.slice mv nv cv), hJ.i6, hJ.f0, hJ.f1, hJ.f2, hJ.f3, hJ.f5, hJ.f6, hJ.f7, hJ.f8, fun h => (hJ.f4 h).keep hk, fun h => (hJ.f9 h).keep hk, fun h => (hJ.p10 h).put (.bool sv) (.slice mv nv cv), fun h h' => (hJ.f10 h h').put hg (Ne.symm (hJ.n10_11 (hN.2.2.1) (hN.1))) (.bool sv) (.slice mv nv cv), fun h => (hJ.p11 h).put (.bool sv) (.slice mv nv cv), fun _ h => no_more h, hJ.n10_11, fun h => (hJ.f12 h).put hg (Ne.symm (hJ.n10_11 (hN.2.2.1) (hN.1))) (.bool sv) (.slice mv nv cv), fun _ => PV.set' hg hv hbx hge⟩
      | k + 14, hi => exact absurd hi (Nat.not_lt.2 (Nat.le_add_left 14 k))
    · intro L a w hA hJ hs hd hf
      have hA12 := hA.2.2.2.2.2.2.2.2.2.2.2.2.1
      have hA13 := hA.2.2.2.2.2.2.2.2.2.2.2.2.2.1
      have hA4 := hA.2.2.2.2.1
      have hA9 := hA.2.2.2.2.2.2.2.2.2.1
      obtain ⟨ga, sa, ma, la, ca', hp1, _, hv1, b1⟩ := hJ.f12 (hA12)
      obtain ⟨gb, sb, mb, lb, cb', hp2, _, hv2, b2⟩ := hJ.f13 (hA13)
      have i1 := hJ.f4 hA4
      have i2 := hJ.f9 hA9
      rw [hv1] at i1
      rw [hv2] at i2
      refine (by assumption : ∀ a' w', Met _ a' w' → _) _ _ (Met.intro ((by assumption : ∀ a' w', _ → _) _ _ ?_))
      exact ⟨a.tmps.getD 13 undef, a.tmps.getD 14 undef, a.tmps.getD 25 undef, a.tmps.getD 26 undef, a.tmps.getD 27 undef, a.tmps.getD 28 undef, a.tmps.getD 29 undef, a.tmps.getD 30 undef, a.tmps.getD 31 undef, a.tmps.getD 32 undef, a.tmps.getD 33 undef, a.tmps.getD 34 undef, a.tmps.getD 35 undef, a.tmps.getD 36 undef, a.tmps.getD 37 undef, a.tmps.getD 38 undef, a.tmps.getD 39 undef, a.tmps.getD 40 undef, a.tmps.getD 41 undef, a.tmps.getD 42 undef, a.tmps.getD 43 undef, a.tmps.getD 44 undef, a.tmps.getD 45 undef, a.tmps.getD 46 undef, a.tmps.getD 47 undef, a.tmps.getD 48 undef, a.tmps.getD 49 undef, a.tmps.getD 50 undef, a.tmps.getD 51 undef, a.tmps.getD 52 undef, a.tmps.getD 53 undef, a.tmps.getD 54 undef, a.tmps.getD 55 undef, a.tmps.getD 56 undef, a.tmps.getD 57 undef, a.tmps.getD 58 undef, a.tmps.getD 59 undef, a.tmps.getD 60 undef, a.tmps.getD 61 undef, a.tmps.getD 62 undef, a.tmps.getD 63 undef, a.tmps.getD 64 undef, a.tmps.getD 65 undef, a.tmps.getD 66 undef, a.tmps.getD 67 undef, a.tmps.getD 68 undef, a.tmps.getD 69 undef, a.tmps.getD 70 undef, a.tmps.getD 71 undef, a.tmps.getD 72 undef, a.tmps.getD 73 undef, a.tmps.getD 74 undef, a.tmps.getD 75 undef, a.tmps.getD 76 undef, a.tmps.getD 77 undef, a.tmps.getD 78 undef, a.tmps.getD 79 undef, a.tmps.getD 80 undef, a.tmps.getD 81 undef, a.tmps.getD 82 undef, a.tmps.getD 83 undef, a.tmps.getD 84 undef, a.tmps.getD 85 undef, a.tmps.getD 86 undef, a.tmps.getD 87 undef, a.tmps.getD 88 undef, a.tmps.getD 89 undef, a.tmps.getD 90 undef, a.tmps.getD 91 undef, a.tmps.getD 92 undef, a.tmps.getD 93 undef, a.tmps.getD 94 undef, a.tmps.getD 95 undef, a.tmps.getD 96 undef, a.tmps.getD 97 undef, a.tmps.getD 98 undef, a.tmps.getD 99 undef, a.tmps.getD 100 undef, a.tmps.getD 101 undef, a.tmps.getD 102 undef, a.tmps.getD 103 undef, a.tmps.getD 104 undef, a.tmps.getD 105 undef, a.tmps.getD 106 undef, a.tmps.getD 107 undef, a.tmps.getD 108 undef, a.tmps.getD 109 undef, a.tmps.getD 110 undef, a.tmps.getD 111 undef, a.tmps.getD 112 undef, a.tmps.getD 113 undef, a.tmps.getD 114 undef, a.tmps.getD 115 undef, a.tmps.getD 116 undef, a.tmps.getD 117 undef, a.tmps.getD 118 undef, a.tmps.getD 119 undef, a.tmps.getD 120 undef, a.tmps.getD 121 undef, a.tmps.getD 122 undef, a.tmps.getD 123 undef, a.tmps.getD 124 undef, a.tmps.getD 125 undef, a.tmps.getD 126 undef, a.tmps.getD 127 undef, a.tmps.getD 128 undef, a.tmps.getD 129 undef, a.tmps.getD 130 undef, a.tmps.getD 131 undef, a.tmps.getD 132 undef, a.tmps.getD 133 undef, a.tmps.getD 134 undef, a.tmps.getD 135 undef, a.tmps.getD 136 undef, a.tmps.getD 137 undef, a.tmps.getD 138 undef, a.tmps.getD 139 undef, a.tmps.getD 140 undef, a.tmps.getD 141 undef, a.tmps.getD 142 undef, a.tmps.getD 143 undef, a.tmps.getD 144 undef, a.tmps.getD 145 undef, a.tmps.getD 146 undef, a.tmps.getD 147 undef, a.tmps.getD 148 undef, a.tmps.getD 149 undef, a.tmps.getD 150 undef, a.tmps.getD 151 undef, a.tmps.getD 152 undef, a.tmps.getD 153 undef, a.tmps.getD 154 undef, a.tmps.getD 155 undef, a.tmps.getD 156 undef, a.tmps.getD 157 undef, a.tmps.getD 158 undef, a.tmps.getD 159 undef, a.tmps.getD 160 undef, a.tmps.getD 161 undef, a.tmps.getD 162 undef, a.tmps.getD 163 undef, a.tmps.getD 164 undef, a.tmps.getD 165 undef, a.tmps.getD 166 undef, a.tmps.getD 167 undef, a.tmps.getD 168 undef, a.tmps.getD 169 undef, a.tmps.getD 170 undef, a.tmps.getD 171 undef, a.tmps.getD 172 undef, a.tmps.getD 173 undef, a.tmps.getD 174 undef, a.tmps.getD 175 undef, a.tmps.getD 176 undef, a.tmps.getD 177 undef, a.tmps.getD 178 undef, a.tmps.getD 179 undef, a.tmps.getD 180 undef, a.tmps.getD 181 undef, a.tmps.getD 182 undef, a.tmps.getD 183 undef, a.tmps.getD 184 undef, a.tmps.getD 185 undef, a.tmps.getD 186 undef, a.tmps.getD 187 undef, a.tmps.getD 188 undef, a.tmps.getD 189 undef, a.tmps.getD 190 undef, a.tmps.getD 191 undef, a.tmps.getD 192 undef, a.tmps.getD 193 undef, a.tmps.getD 194 undef, a.tmps.getD 195 undef, a.tmps.getD 196 undef, a.tmps.getD 197 undef, a.tmps.getD 198 undef, a.tmps.getD 199 undef, a.tmps.getD 200 undef, a.tmps.getD 201 undef, a.tmps.getD 202 undef, a.tmps.getD 203 undef, a.tmps.getD 204 undef, a.tmps.getD 205 undef, a.tmps.getD 206 undef, a.tmps.getD 207 undef, a.tmps.getD 208 undef, a.tmps.getD 209 undef, a.tmps.getD 210 undef, a.tmps.getD 211 undef, a.tmps.getD 212 undef, a.tmps.getD 213 undef, a.tmps.getD 214 undef, a.tmps.getD 215 undef, a.tmps.getD 216 undef, a.tmps.getD 217 undef, a.tmps.getD 218 undef, a.tmps.getD 219 undef, a.tmps.getD 220 undef, a.tmps.getD 221 undef, a.tmps.getD 222 undef, a.tmps.getD 223 undef, a.tmps.getD 224 undef, a.tmps.getD 225 undef, a.tmps.getD 226 undef, a.tmps.getD 227 undef, a.tmps.getD 228 undef, a.tmps.getD 229 undef, a.tmps.getD 230 undef, a.tmps.getD 231 undef, a.tmps.getD 232 undef, a.tmps.getD 233 undef, a.tmps.getD 234 undef, a.tmps.getD 235 undef, a.tmps.getD 236 undef, a.tmps.getD 237 undef, ⟨ga, gb, sa, ma, la, ca', sb, mb, lb, cb', hp1, hp2, b1, b2, i1, i2, hJ.bl⟩, act_eq _ _ [13, 14, 25, 26, 27, 28, 29, 30, 31, 32, 33, 34, 35, 36, 37, 38, 39, 40, 41, 42, 43, 44, 45, 46, 47, 48, 49, 50, 51, 52, 53, 54, 55, 56, 57, 58, 59, 60, 61, 62, 63, 64, 65, 66, 67, 68, 69, 70, 71, 72, 73, 74, 75, 76, 77, 78, 79, 80, 81, 82, 83, 84, 85, 86, 87, 88, 89, 90, 91, 92, 93, 94, 95, 96, 97, 98, 99, 100, 101, 102, 103, 104, 105, 106, 107, 108, 109, 110, 111, 112, 113, 114, 115, 116, 117, 118, 119, 120, 121, 122, 123, 124, 125, 126, 127, 128, 129, 130, 131, 132, 133, 134, 135, 136, 137, 138, 139, 140, 141, 142, 143, 144, 145, 146, 147, 148, 149, 150, 151, 152, 153, 154, 155, 156, 157, 158, 159, 160, 161, 162, 163, 164, 165, 166, 167, 168, 169, 170, 171, 172, 173, 174, 175, 176, 177, 178, 179, 180, 181, 182, 183, 184, 185, 186, 187, 188, 189, 190, 191, 192, 193, 194, 195, 196, 197, 198, 199, 200, 201, 202, 203, 204, 205, 206, 207, 208, 209, 210, 211, 212, 213, 214, 215, 216, 217, 218, 219, 220, 221, 222, 223, 224, 225, 226, 227, 228, 229, 230, 231, 232, 233, 234, 235, 236, 237] hf (by as_aux_lemma => kernel_rfl) (hs.trans (by as_aux_lemma => kernel_rfl)) hd (by as_aux_lemma => kernel_rfl)⟩
  case rest =>
  obtain ⟨ga2, gb2, sa2, ma2, la2, ka2, sb2, mb2, lb2, kb2, rfl, rfl, ba, bb, ia, ib, hb⟩ := hcut
  replace HB := hide (HB.out.trans ((hb).mono HB.out.size))
  replace C0 := hide (C0.out.step (hb))
  replace C1 := hide (C1.out.step (hb))
  replace C2 := hide (C2.out.step (hb))
  replace C3 := hide (C3.out.step (hb))
  replace XA := hide (XA.out.below (hb))
  replace PA := hide (PA.out.below (hb))
  replace XC := hide (XC.out.below (hb))
  replace PC := hide (PC.out.below (hb))
  replace NC := hide (NC.out.below (hb))
  replace ND := hide (ND.out.below (hb))
  replace Va1 := hide (Va1.out.step (hb))
  replace Vb1 := hide (Vb1.out.step (hb))
  replace Ia1 := hide (Ia1.out.below (hb))
  replace Ib1 := hide (Ib1.out.below (hb))
  have Va2 := hide ba
  have Vb2 := hide bb
  have Ia2 := hide ia
  have Ib2 := hide ib
  clear ba bb ia ib hb
  generalize hwc : wc = wq2 at *
  clear hwc
  clear C0 C1 C2 C3 NC ND HM HN LC LD
  have HW := hide (Below.refl wq2.heap.size wq2)
  have LW7 := hide HB.out.size
  by_cases hlen : ns.length = ms.length
  · skip
    have HL : Hid (ys.length = xs.length) := hide (by rw [LNX.out, LNY.out]; exact hlen.symm)
    have hne : (((ns.length : Nat) : Int) != ((ms.length : Nat) : Int)) = false := by simp; omega
    clear hlen
    go_wp2_with fail
    refine (radd_any _ _ xs ys 300 _ (XA.out.below HW.out) (XC.out.below HW.out) HL.out (by have := LX.out; omega) SX.out SY.out (by decide)).mono ?_
    rintro e w10 ⟨bs, rfl, hge, hr, hb⟩
    replace hr : IRow _ bs (adL xs ys) := hr
    have GEs : Hid (wq2.heap.size ≤ bs) := hide (Nat.le_trans HW.out.size hge)
    replace HB := hide (HB.out.trans ((hb).mono HB.out.size))
    replace HW := hide (HW.out.trans ((hb).mono HW.out.size))
    have Rs := hide hr
    clear hr hb hge
    go_wp2_with fail
    refine (rsub_any _ _ xs ys 300 _ (XA.out.below HW.out) (XC.out.below HW.out) HL.out (by have := LX.out; omega) SX.out SY.out (by decide)).mono ?_
    rintro e w11 ⟨bt, rfl, hge, hr, hb⟩
    replace hr : IRow _ bt (sbL xs ys) := hr
    have GEt : Hid (wq2.heap.size ≤ bt) := hide (Nat.le_trans HW.out.size hge)
    have LTst : Hid (bs < bt) := hide (Nat.lt_of_lt_of_le Rs.out.lt hge)
    replace HB := hide (HB.out.trans ((hb).mono HB.out.size))
    replace HW := hide (HW.out.trans ((hb).mono HW.out.size))
    replace Rs := hide (Rs.out.step (hb))
    have Rt := hide hr
    clear hr hb hge
    have Va10 := (Va1.out.step HW.out).cell0
    have Va11 := (Va1.out.step HW.out).cell1
    have Va20 := (Va2.out.step HW.out).cell0
    have Va21 := (Va2.out.step HW.out).cell1
    go_wp2_with fail
    refine (rcombine_any _ _ _ _ xs ys m n 300 _ (Ia1.out.below HW.out) (XA.out.below HW.out) (Ia2.out.below HW.out) (XC.out.below HW.out) HL.out (by have := LX.out; omega) SX.out SY.out SM.out SN.out (by decide)).mono ?_
    rintro e w12 ⟨bu, rfl, hge, hr, hb⟩
    replace hr : IRow _ bu (cbL m xs n ys) := hr
    have GEu : Hid (wq2.heap.size ≤ bu) := hide (Nat.le_trans HW.out.size hge)
    have LTsu : Hid (bs < bu) := hide (Nat.lt_of_lt_of_le Rs.out.lt hge)
    have LTtu : Hid (bt < bu) := hide (Nat.lt_of_lt_of_le Rt.out.lt hge)
    replace HB := hide (HB.out.trans ((hb).mono HB.out.size))
    replace HW := hide (HW.out.trans ((hb).mono HW.out.size))
    replace Rs := hide (Rs.out.step (hb))
    replace Rt := hide (Rt.out.step (hb))
    have Ru := hide hr
    clear hr hb hge
    clear Va10 Va11
    clear Va20 Va21
    go_wp2_with fail
    refine (rdot_any _ _ xs ys 300 2000 _ (XA.out.below HW.out) (XC.out.below HW.out) HL.out (by have := LX.out; omega) SX.out SY.out (by decide) (fun i => (dot_sz (n := 300) SX.out SY.out LX.out i).mono (by decide)) ((SX.out.dots SY.out).mono (by decide)) (by decide)).mono ?_
    rintro e w13 ⟨v, rfl, i, hb⟩
    replace i : IntAt _ _ (dotL xs ys) := i
    obtain ⟨sp, mp, lp, cp, rfl, i⟩ := i.cells
    replace HB := hide (HB.out.trans ((hb).mono HB.out.size))
    replace HW := hide (HW.out.trans ((hb).mono HW.out.size))
    replace Rs := hide (Rs.out.step (hb))
    replace Rt := hide (Rt.out.step (hb))
    replace Ru := hide (Ru.out.step (hb))
    have IP := hide i
    clear i hb
    go_upto_region 14 with fail
    have hb := below_alloc w13 (.cells #[.bool sp, .slice mp lp cp] 36)
    replace HB := hide (HB.out.trans ((hb).mono HB.out.size))
    replace HW := hide (HW.out.trans ((hb).mono HW.out.size))
    replace Rs := hide (Rs.out.step (hb))
    replace Rt := hide (Rt.out.step (hb))
    replace Ru := hide (Ru.out.step (hb))
    replace IP := hide (IP.out.below (hb))
    clear hb
    have VP := hide (Box.new w13 (.bool sp) (.slice mp lp cp))
    generalize w13.alloc (.cells #[.bool sp, .slice mp lp cp] 36) = w14 at *
    generalize w13.heap.size = gp at *
    refine wp_calm (fun w' => Below w14.heap.size w14 w') (fun _ => true) 7 #[false, false, false, false, false, false, false] (by as_aux_lemma => kernel_rfl) rfl rfl ?_
    have HF := hide ((Below.refl w14.heap.size w14).drew)
    generalize w14.drew = w14d at *
    refine Calm.take (i := 0) (v := ?_) (a' := ?_) (l' := #[true, false, false, false, false, false, false]) (d := some 98) rfl (by as_aux_lemma => kernel_rfl) (by as_aux_lemma => kernel_rfl) (by as_aux_lemma => kernel_rfl) (by as_aux_lemma => kernel_rfl) (fun _ _ _ h => h) HF.out rfl ?_ rfl rfl ?_ ?_
    rotate_left
    · intro w' hF; clear hF; go_simp; try rfl
    rotate_left
    · simp only [Act.put]; exact rfl
    refine Calm.take (i := 2) (v := ?_) (a' := ?_) (l' := #[true, false, true, false, false, false, false]) (d := some 100) rfl (by as_aux_lemma => kernel_rfl) (by as_aux_lemma => kernel_rfl) (by as_aux_lemma => kernel_rfl) (by as_aux_lemma => kernel_rfl) (fun _ _ _ h => h) HF.out rfl ?_ rfl rfl ?_ ?_
    rotate_left
    · intro w' hF; clear hF; go_simp; try rfl
    rotate_left
    · simp only [Act.put]; exact rfl
    refine Calm.take (i := 3) (v := ?_) (a' := ?_) (l' := #[true, false, true, true, false, false, false]) (d := some 101) rfl (by as_aux_lemma => kernel_rfl) (by as_aux_lemma => kernel_rfl) (by as_aux_lemma => kernel_rfl) (by as_aux_lemma => kernel_rfl) (fun _ _ _ h => h) HF.out rfl ?_ rfl rfl ?_ ?_
    rotate_left
    · intro w' hF; have f0 := ((Va1.out.step HW.out).step hF).cell0; have f1 := ((Va1.out.step HW.out).step hF).cell1; clear hF; go_simp; try rfl
    rotate_left
    · simp only [Act.put]; exact rfl
    refine Calm.one (i := 1) (l' := #[true, true, true, true, false, false, false]) (by as_aux_lemma => kernel_rfl) rfl rfl rfl fun K hK => ?_
    go_simp
    refine (rnegL_any _ xs _ (((XA.out.below HW.out)).below HF.out) (by have := LX.out; omega)).mono ?_
    rintro e y1 ⟨bv, rfl, hge, hr, hb⟩
    rw [neg_scale] at hr
    have Gv := hide (Nat.le_trans HF.out.size hge)
    have HF' := hide (HF.out.trans ((hb).mono HF.out.size))
    have Rv := hide (hr)
    refine hK _ _ (fun _ => HF'.out) ?_
    clear hK K HF hb hr hge
    have HF := hide HF'.out
    clear HF'
    refine Calm.one (i := 4) (l' := #[true, true, true, true, true, false, false]) (by as_aux_lemma => kernel_rfl) rfl rfl rfl fun K hK => ?_
    go_simp
    refine (rscale_any _ _ xs m 300 _ (((XA.out.below HW.out)).below HF.out) (((Ia1.out.below HW.out)).below HF.out) (by have := LX.out; omega) SX.out SM.out (by decide)).mono ?_
    rintro e y2 ⟨bw, rfl, hge, hr, hb⟩
    replace hr : IRow _ bw (scL xs m) := hr
    have Gw := hide (Nat.le_trans HF.out.size hge)
    have LTvw := hide (Nat.lt_of_lt_of_le Rv.out.lt hge)
    replace Rv := hide (Rv.out.step (hb))
    have HF' := hide (HF.out.trans ((hb).mono HF.out.size))
    have Rw := hide (hr)
    refine hK _ _ (fun _ => HF'.out) ?_
    clear hK K HF hb hr hge
    have HF := hide HF'.out
    clear HF'
    refine Calm.take (i := 5) (v := ?_) (a' := ?_) (l' := #[true, true, true, true, true, true, false]) (d := some 23) rfl (by as_aux_lemma => kernel_rfl) (by as_aux_lemma => kernel_rfl) (by as_aux_lemma => kernel_rfl) (by as_aux_lemma => kernel_rfl) (fun _ _ _ h => h) HF.out rfl ?_ rfl rfl ?_ ?_
    rotate_left
    · intro w' hF; clear hF; go_simp; try rfl
    rotate_left
    · simp only [Act.put]; exact rfl
    refine Calm.take (i := 6) (v := ?_) (a' := ?_) (l' := #[true, true, true, true, true, true, true]) (d := some 24) rfl (by as_aux_lemma => kernel_rfl) (by as_aux_lemma => kernel_rfl) (by as_aux_lemma => kernel_rfl) (by as_aux_lemma => kernel_rfl) (fun _ _ _ h => h) HF.out rfl ?_ rfl rfl ?_ ?_
    rotate_left
    · intro w' hF; clear hF; go_simp; try rfl
    rotate_left
    · simp only [Act.put]; exact rfl
    refine Calm.done (by as_aux_lemma => kernel_rfl) ?_
    have LTsv : Hid (bs < bv) := hide (Nat.lt_of_lt_of_le Rs.out.lt Gv.out)
    have LTsw : Hid (bs < bw) := hide (Nat.lt_of_lt_of_le Rs.out.lt Gw.out)
    have LTtv : Hid (bt < bv) := hide (Nat.lt_of_lt_of_le Rt.out.lt Gv.out)
    have LTtw : Hid (bt < bw) := hide (Nat.lt_of_lt_of_le Rt.out.lt Gw.out)
    have LTuv : Hid (bu < bv) := hide (Nat.lt_of_lt_of_le Ru.out.lt Gv.out)
    have LTuw : Hid (bu < bw) := hide (Nat.lt_of_lt_of_le Ru.out.lt Gw.out)
    have LTpv : Hid (gp < bv) := hide (Nat.lt_of_lt_of_le VP.out.lt Gv.out)
    have GEv : Hid (wq2.heap.size ≤ bv) := hide (Nat.le_trans HW.out.size Gv.out)
    have LTpw : Hid (gp < bw) := hide (Nat.lt_of_lt_of_le VP.out.lt Gw.out)
    have GEw : Hid (wq2.heap.size ≤ bw) := hide (Nat.le_trans HW.out.size Gw.out)
    replace HB := hide (HB.out.trans ((HF.out).mono HB.out.size))
    replace HW := hide (HW.out.trans ((HF.out).mono HW.out.size))
    replace Rs := hide (Rs.out.step (HF.out))
    replace Rt := hide (Rt.out.step (HF.out))
    replace Ru := hide (Ru.out.step (HF.out))
    replace IP := hide (IP.out.below (HF.out))
    replace VP := hide (VP.out.step (HF.out))
    clear HF Gv Gw
    go_wp2_with fail
    refine (rof_any (-1) _ (by decide) (by decide)).mono ?_
    rintro e w15 ⟨v, rfl, i, hb⟩
    replace HB := hide (HB.out.trans ((hb).mono HB.out.size))
    replace HW := hide (HW.out.trans ((hb).mono HW.out.size))
    replace Rs := hide (Rs.out.step (hb))
    replace Rt := hide (Rt.out.step (hb))
    replace Ru := hide (Ru.out.step (hb))
    replace IP := hide (IP.out.below (hb))
    replace VP := hide (VP.out.step (hb))
    replace Rv := hide (Rv.out.step (hb))
    replace Rw := hide (Rw.out.step (hb))
    have T1 := hide i
    clear i hb
    go_wp2_with fail
    refine (r4scale_any _ _ xs (-1) 300 _ (PA.out.below HW.out) T1.out (by have := LX.out; omega) SX.out (SzI.one.neg.mono (by decide)) (by decide)).mono ?_
    rintro e w16 ⟨v, rfl, i, hb⟩
    replace HB := hide (HB.out.trans ((hb).mono HB.out.size))
    replace HW := hide (HW.out.trans ((hb).mono HW.out.size))
    replace Rs := hide (Rs.out.step (hb))
    replace Rt := hide (Rt.out.step (hb))
    replace Ru := hide (Ru.out.step (hb))
    replace IP := hide (IP.out.below (hb))
    replace VP := hide (VP.out.step (hb))
    replace Rv := hide (Rv.out.step (hb))
    replace Rw := hide (Rw.out.step (hb))
    replace T1 := hide (T1.out.below (hb))
    have T2 := hide i
    clear i hb T1
    go_wp2_with fail
    refine (isrow_yes _ _ (scL xs (-1)) _ (irow_intsS Rv.out (by first | exact adL_len _ _ | exact sbL_len _ _ | exact cbL_len _ _ _ _ | exact scL_len _ _) (by have := LX.out; unfold maxLen; omega)) T2.out (fun i => SzI.len ((SzL.scale (z := (-1)) SX.out (SzI.one.neg)) i) (by decide))).mono ?_
    rintro e w17 ⟨rfl, hb⟩
    replace HB := hide (HB.out.trans ((hb).mono HB.out.size))
    replace HW := hide (HW.out.trans ((hb).mono HW.out.size))
    replace Rs := hide (Rs.out.step (hb))
    replace Rt := hide (Rt.out.step (hb))
    replace Ru := hide (Ru.out.step (hb))
    replace IP := hide (IP.out.below (hb))
    replace VP := hide (VP.out.step (hb))
    replace Rv := hide (Rv.out.step (hb))
    replace Rw := hide (Rw.out.step (hb))
    replace T2 := hide (T2.out.below (hb))
    clear hb T2
    have Vb10 := (Vb1.out.step HW.out).cell0
    have Vb11 := (Vb1.out.step HW.out).cell1
    go_wp2_with fail
    refine (r4scale_any _ _ xs m 300 _ (PA.out.below HW.out) (Ib1.out.below HW.out) (by have := LX.out; omega) SX.out SM.out (by decide)).mono ?_
    rintro e w18 ⟨v, rfl, i, hb⟩
    clear Vb10 Vb11
    replace HB := hide (HB.out.trans ((hb).mono HB.out.size))
    replace HW := hide (HW.out.trans ((hb).mono HW.out.size))
    replace Rs := hide (Rs.out.step (hb))
    replace Rt := hide (Rt.out.step (hb))
    replace Ru := hide (Ru.out.step (hb))
    replace IP := hide (IP.out.below (hb))
    replace VP := hide (VP.out.step (hb))
    replace Rv := hide (Rv.out.step (hb))
    replace Rw := hide (Rw.out.step (hb))
    have T2 := hide i
    clear i hb
    go_wp2_with fail
    refine (isrow_yes _ _ (scL xs m) _ (irow_intsS Rw.out (by first | exact adL_len _ _ | exact sbL_len _ _ | exact cbL_len _ _ _ _ | exact scL_len _ _) (by have := LX.out; unfold maxLen; omega)) T2.out (fun i => SzI.len ((SX.out.scale SM.out) i) (by decide))).mono ?_
    rintro e w19 ⟨rfl, hb⟩
    replace HB := hide (HB.out.trans ((hb).mono HB.out.size))
    replace HW := hide (HW.out.trans ((hb).mono HW.out.size))
    replace Rs := hide (Rs.out.step (hb))
    replace Rt := hide (Rt.out.step (hb))
    replace Ru := hide (Ru.out.step (hb))
    replace IP := hide (IP.out.below (hb))
    replace VP := hide (VP.out.step (hb))
    replace Rv := hide (Rv.out.step (hb))
    replace Rw := hide (Rw.out.step (hb))
    replace T2 := hide (T2.out.below (hb))
    clear hb T2
    go_wp2_with fail
    refine (own_row bv xs.length (scL xs (-1)) _ _ xs wq2 _ (by first | exact adL_len _ _ | exact sbL_len _ _ | exact cbL_len _ _ _ _ | exact scL_len _ _) HW.out GEv.out Rv.out (by have := LX.out; omega) XA.out PA.out (fun i => SzI.len (SX.out i) (by decide))).mono ?_
    rintro e w20 ⟨rfl, hkb, hW⟩
    replace HB := hide (below_keptS HB.out hkb (Nat.le_trans LW7.out GEv.out) HB.out.size)
    replace HW := hide hW
    replace Rs := hide (Rs.out.kept hkb (Nat.ne_of_lt LTsv.out))
    replace Rt := hide (Rt.out.kept hkb (Nat.ne_of_lt LTtv.out))
    replace Ru := hide (Ru.out.kept hkb (Nat.ne_of_lt LTuv.out))
    replace Rw := hide (Rw.out.kept hkb (Nat.ne_of_gt LTvw.out))
    replace VP := hide (VP.out.kept hkb (Nat.ne_of_lt LTpv.out))
    replace IP := hide (IP.out.keep hkb.limbs)
    clear hkb hW Rv
    go_wp2_with fail
    refine (own_row bw xs.length (scL xs m) _ _ xs wq2 _ (by first | exact adL_len _ _ | exact sbL_len _ _ | exact cbL_len _ _ _ _ | exact scL_len _ _) HW.out GEw.out Rw.out (by have := LX.out; omega) XA.out PA.out (fun i => SzI.len (SX.out i) (by decide))).mono ?_
    rintro e w21 ⟨rfl, hkb, hW⟩
    replace HB := hide (below_keptS HB.out hkb (Nat.le_trans LW7.out GEw.out) HB.out.size)
    replace HW := hide hW
    replace Rs := hide (Rs.out.kept hkb (Nat.ne_of_lt LTsw.out))
    replace Rt := hide (Rt.out.kept hkb (Nat.ne_of_lt LTtw.out))
    replace Ru := hide (Ru.out.kept hkb (Nat.ne_of_lt LTuw.out))
    replace VP := hide (VP.out.kept hkb (Nat.ne_of_lt LTpw.out))
    replace IP := hide (IP.out.keep hkb.limbs)
    clear hkb hW Rw
    go_wp2_with fail
    refine (rlive_any _).mono ?_
    rintro e w22 ⟨rfl, hb⟩
    replace HB := hide (HB.out.trans ((hb).mono HB.out.size))
    replace HW := hide (HW.out.trans ((hb).mono HW.out.size))
    replace Rs := hide (Rs.out.step (hb))
    replace Rt := hide (Rt.out.step (hb))
    replace Ru := hide (Ru.out.step (hb))
    replace IP := hide (IP.out.below (hb))
    replace VP := hide (VP.out.step (hb))
    clear hb
    go_upto_region 19 with fail
    have Xs := hide (irow_intsS Rs.out (by first | exact adL_len _ _ | exact sbL_len _ _ | exact cbL_len _ _ _ _ | exact scL_len _ _) (by have := LX.out; unfold maxLen; omega))
    have Xt := hide (irow_intsS Rt.out (by first | exact adL_len _ _ | exact sbL_len _ _ | exact cbL_len _ _ _ _ | exact scL_len _ _) (by have := LX.out; unfold maxLen; omega))
    have Xu := hide (irow_intsS Ru.out (by first | exact adL_len _ _ | exact sbL_len _ _ | exact cbL_len _ _ _ _ | exact scL_len _ _) (by have := LX.out; unfold maxLen; omega))
    refine wp_calm (fun w' => Below w22.heap.size w22 w') (fun _ => true) 48 #[false, false, false, false, false, false, false, false, false, false, false, false, false, false, false, false, false, false, false, false, false, false, false, false, false, false, false, false, false, false, false, false, false, false, false, false, false, false, false, false, false, false, false, false, false, false, false, false] (by as_aux_lemma => kernel_rfl) rfl rfl ?_
    have HF := hide ((Below.refl w22.heap.size w22).drew)
    generalize w22.drew = w22d at *
    refine Calm.take (i := 0) (v := ?_) (a' := ?_) (l' := #[true, false, false, false, false, false, false, false, false, false, false, false, false, false, false, false, false, false, false, false, false, false, false, false, false, false, false, false, false, false, false, false, false, false, false, false, false, false, false, false, false, false, false, false, false, false, false, false]) (d := some 174) rfl (by as_aux_lemma => kernel_rfl) (by as_aux_lemma => kernel_rfl) (by as_aux_lemma => kernel_rfl) (by as_aux_lemma => kernel_rfl) (fun _ _ _ h => h) HF.out rfl ?_ rfl rfl ?_ ?_
    rotate_left
    · intro w' hF; clear hF; go_simp; try rfl
    rotate_left
    · simp only [Act.put]; exact rfl
    refine Calm.take (i := 1) (v := ?_) (a' := ?_) (l' := #[true, true, false, false, false, false, false, false, false, false, false, false, false, false, false, false, false, false, false, false, false, false, false, false, false, false, false, false, false, false, false, false, false, false, false, false, false, false, false, false, false, false, false, false, false, false, false, false]) (d := some 175) rfl (by as_aux_lemma => kernel_rfl) (by as_aux_lemma => kernel_rfl) (by as_aux_lemma => kernel_rfl) (by as_aux_lemma => kernel_rfl) (fun _ _ _ h => h) HF.out rfl ?_ rfl rfl ?_ ?_
    rotate_left
    · intro w' hF; clear hF; go_simp; try rfl
    rotate_left
    · simp only [Act.put]; exact rfl
    refine Calm.take (i := 2) (v := ?_) (a' := ?_) (l' := #[true, true, true, false, false, false, false, false, false, false, false, false, false, false, false, false, false, false, false, false, false, false, false, false, false, false, false, false, false, false, false, false, false, false, false, false, false, false, false, false, false, false, false, false, false, false, false, false]) (d := some 176) rfl (by as_aux_lemma => kernel_rfl) (by as_aux_lemma => kernel_rfl) (by as_aux_lemma => kernel_rfl) (by as_aux_lemma => kernel_rfl) (fun _ _ _ h => h) HF.out rfl ?_ rfl rfl ?_ ?_
    rotate_left
    · intro w' hF; clear hF; go_simp; try rfl
    rotate_left
    · simp only [Act.put]; exact rfl
    refine Calm.take (i := 3) (v := ?_) (a' := ?_) (l' := #[true, true, true, true, false, false, false, false, false, false, false, false, false, false, false, false, false, false, false, false, false, false, false, false, false, false, false, false, false, false, false, false, false, false, false, false, false, false, false, false, false, false, false, false, false, false, false, false]) (d := some 177) rfl (by as_aux_lemma => kernel_rfl) (by as_aux_lemma => kernel_rfl) (by as_aux_lemma => kernel_rfl) (by as_aux_lemma => kernel_rfl) (fun _ _ _ h => h) HF.out (by as_aux_lemma => kernel_rfl) ?_ rfl rfl ?_ ?_
    rotate_left
    · intro w' hF; clear hF; go_simp; try rfl
    rotate_left
    · simp only [Act.put]; exact rfl
    refine Calm.take (i := 4) (v := ?_) (a' := ?_) (l' := #[true, true, true, true, true, false, false, false, false, false, false, false, false, false, false, false, false, false, false, false, false, false, false, false, false, false, false, false, false, false, false, false, false, false, false, false, false, false, false, false, false, false, false, false, false, false, false, false]) (d := some 178) rfl (by as_aux_lemma => kernel_rfl) (by as_aux_lemma => kernel_rfl) (by as_aux_lemma => kernel_rfl) (by as_aux_lemma => kernel_rfl) (fun _ _ _ h => h) HF.out (by as_aux_lemma => kernel_rfl) ?_ rfl rfl ?_ ?_
    rotate_left
    · intro w' hF; clear hF; go_simp; try rfl
    rotate_left
    · simp only [Act.put]; exact rfl
    refine Calm.take (i := 5) (v := ?_) (a' := ?_) (l' := #[true, true, true, true, true, true, false, false, false, false, false, false, false, false, false, false, false, false, false, false, false, false, false, false, false, false, false, false, false, false, false, false, false, false, false, false, false, false, false, false, false, false, false, false, false, false, false, false]) (d := some 179) rfl (by as_aux_lemma => kernel_rfl) (by as_aux_lemma => kernel_rfl) (by as_aux_lemma => kernel_rfl) (by as_aux_lemma => kernel_rfl) (fun _ _ _ h => h) HF.out rfl ?_ rfl rfl ?_ ?_
    rotate_left
    · intro w' hF; clear hF; go_simp; try rfl
    rotate_left
    · simp only [Act.put]; exact rfl
    refine Calm.take (i := 6) (v := ?_) (a' := ?_) (l' := #[true, true, true, true, true, true, true, false, false, false, false, false, false, false, false, false, false, false, false, false, false, false, false, false, false, false, false, false, false, false, false, false, false, false, false, false, false, false, false, false, false, false, false, false, false, false, false, false]) (d := some 180) rfl (by as_aux_lemma => kernel_rfl) (by as_aux_lemma => kernel_rfl) (by as_aux_lemma => kernel_rfl) (by as_aux_lemma => kernel_rfl) (fun _ _ _ h => h) HF.out rfl ?_ rfl rfl ?_ ?_
    rotate_left
    · intro w' hF; clear hF; go_simp; try rfl
    rotate_left
    · simp only [Act.put]; exact rfl
    refine Calm.take (i := 7) (v := ?_) (a' := ?_) (l' := #[true, true, true, true, true, true, true, true, false, false, false, false, false, false, false, false, false, false, false, false, false, false, false, false, false, false, false, false, false, false, false, false, false, false, false, false, false, false, false, false, false, false, false, false, false, false, false, false]) (d := some 181) rfl (by as_aux_lemma => kernel_rfl) (by as_aux_lemma => kernel_rfl) (by as_aux_lemma => kernel_rfl) (by as_aux_lemma => kernel_rfl) (fun _ _ _ h => h) HF.out (by as_aux_lemma => kernel_rfl) ?_ rfl rfl ?_ ?_
    rotate_left
    · intro w' hF; clear hF; go_simp; try rfl
    rotate_left
    · simp only [Act.put]; exact rfl
    refine Calm.take (i := 8) (v := ?_) (a' := ?_) (l' := #[true, true, true, true, true, true, true, true, true, false, false, false, false, false, false, false, false, false, false, false, false, false, false, false, false, false, false, false, false, false, false, false, false, false, false, false, false, false, false, false, false, false, false, false, false, false, false, false]) (d := some 182) rfl (by as_aux_lemma => kernel_rfl) (by as_aux_lemma => kernel_rfl) (by as_aux_lemma => kernel_rfl) (by as_aux_lemma => kernel_rfl) (fun _ _ _ h => h) HF.out (by as_aux_lemma => kernel_rfl) ?_ rfl rfl ?_ ?_
    rotate_left
    · intro w' hF; clear hF; go_simp; try rfl
    rotate_left
    · simp only [Act.put]; exact rfl
    refine Calm.take (i := 9) (v := ?_) (a' := ?_) (l' := #[true, true, true, true, true, true, true, true, true, true, false, false, false, false, false, false, false, false, false, false, false, false, false, false, false, false, false, false, false, false, false, false, false, false, false, false, false, false, false, false, false, false, false, false, false, false, false, false]) (d := some 183) rfl (by as_aux_lemma => kernel_rfl) (by as_aux_lemma => kernel_rfl) (by as_aux_lemma => kernel_rfl) (by as_aux_lemma => kernel_rfl) (fun _ _ _ h => h) HF.out rfl ?_ rfl rfl ?_ ?_
    rotate_left
    · intro w' hF; clear hF; go_simp; try rfl
    rotate_left
    · simp only [Act.put]; exact rfl
    refine Calm.take (i := 10) (v := ?_) (a' := ?_) (l' := #[true, true, true, true, true, true, true, true, true, true, true, false, false, false, false, false, false, false, false, false, false, false, false, false, false, false, false, false, false, false, false, false, false, false, false, false, false, false, false, false, false, false, false, false, false, false, false, false]) (d := some 184) rfl (by as_aux_lemma => kernel_rfl) (by as_aux_lemma => kernel_rfl) (by as_aux_lemma => kernel_rfl) (by as_aux_lemma => kernel_rfl) (fun _ _ _ h => h) HF.out rfl ?_ rfl rfl ?_ ?_
    rotate_left
    · intro w' hF; clear hF; go_simp; try rfl
    rotate_left
    · simp only [Act.put]; exact rfl
    refine Calm.take (i := 11) (v := ?_) (a' := ?_) (l' := #[true, true, true, true, true, true, true, true, true, true, true, true, false, false, false, false, false, false, false, false, false, false, false, false, false, false, false, false, false, false, false, false, false, false, false, false, false, false, false, false, false, false, false, false, false, false, false, false]) (d := some 185) rfl (by as_aux_lemma => kernel_rfl) (by as_aux_lemma => kernel_rfl) (by as_aux_lemma => kernel_rfl) (by as_aux_lemma => kernel_rfl) (fun _ _ _ h => h) HF.out (by as_aux_lemma => kernel_rfl) ?_ rfl rfl ?_ ?_
    rotate_left
    · intro w' hF; clear hF; go_simp; try rfl
    rotate_left
    · simp only [Act.put]; exact rfl
    refine Calm.take (i := 12) (v := ?_) (a' := ?_) (l' := #[true, true, true, true, true, true, true, true, true, true, true, true, true, false, false, false, false, false, false, false, false, false, false, false, false, false, false, false, false, false, false, false, false, false, false, false, false, false, false, false, false, false, false, false, false, false, false, false]) (d := some 186) rfl (by as_aux_lemma => kernel_rfl) (by as_aux_lemma => kernel_rfl) (by as_aux_lemma => kernel_rfl) (by as_aux_lemma => kernel_rfl) (fun _ _ _ h => h) HF.out (by as_aux_lemma => kernel_rfl) ?_ rfl rfl ?_ ?_
    rotate_left
    · intro w' hF; clear hF; go_simp; try rfl
    rotate_left
    · simp only [Act.put]; exact rfl
    refine Calm.take (i := 13) (v := ?_) (a' := ?_) (l' := #[true, true, true, true, true, true, true, true, true, true, true, true, true, true, false, false, false, false, false, false, false, false, false, false, false, false, false, false, false, false, false, false, false, false, false, false, false, false, false, false, false, false, false, false, false, false, false, false]) (d := some 187) rfl (by as_aux_lemma => kernel_rfl) (by as_aux_lemma => kernel_rfl) (by as_aux_lemma => kernel_rfl) (by as_aux_lemma => kernel_rfl) (fun _ _ _ h => h) HF.out rfl ?_ rfl rfl ?_ ?_
    rotate_left
    · intro w' hF; clear hF; go_simp; try rfl
    rotate_left
    · simp only [Act.put]; exact rfl
    refine Calm.take (i := 14) (v := ?_) (a' := ?_) (l' := #[true, true, true, true, true, true, true, true, true, true, true, true, true, true, true, false, false, false, false, false, false, false, false, false, false, false, false, false, false, false, false, false, false, false, false, false, false, false, false, false, false, false, false, false, false, false, false, false]) (d := some 188) rfl (by as_aux_lemma => kernel_rfl) (by as_aux_lemma => kernel_rfl) (by as_aux_lemma => kernel_rfl) (by as_aux_lemma => kernel_rfl) (fun _ _ _ h => h) HF.out rfl ?_ rfl rfl ?_ ?_
    rotate_left
    · intro w' hF; clear hF; go_simp; try rfl
    rotate_left
    · simp only [Act.put]; exact rfl
    refine Calm.take (i := 15) (v := ?_) (a' := ?_) (l' := #[true, true, true, true, true, true, true, true, true, true, true, true, true, true, true, true, false, false, false, false, false, false, false, false, false, false, false, false, false, false, false, false, false, false, false, false, false, false, false, false, false, false, false, false, false, false, false, false]) (d := some 189) rfl (by as_aux_lemma => kernel_rfl) (by as_aux_lemma => kernel_rfl) (by as_aux_lemma => kernel_rfl) (by as_aux_lemma => kernel_rfl) (fun _ _ _ h => h) HF.out (by as_aux_lemma => kernel_rfl) ?_ rfl rfl ?_ ?_
    rotate_left
    · intro w' hF; clear hF; go_simp; try rfl
    rotate_left
    · simp only [Act.put]; exact rfl
    refine Calm.take (i := 16) (v := ?_) (a' := ?_) (l' := #[true, true, true, true, true, true, true, true, true, true, true, true, true, true, true, true, true, false, false, false, false, false, false, false, false, false, false, false, false, false, false, false, false, false, false, false, false, false, false, false, false, false, false, false, false, false, false, false]) (d := some 190) rfl (by as_aux_lemma => kernel_rfl) (by as_aux_lemma => kernel_rfl) (by as_aux_lemma => kernel_rfl) (by as_aux_lemma => kernel_rfl) (fun _ _ _ h => h) HF.out (by as_aux_lemma => kernel_rfl) ?_ rfl rfl ?_ ?_
    rotate_left
    · intro w' hF; clear hF; go_simp; try rfl
    rotate_left
    · simp only [Act.put]; exact rfl
    refine Calm.take (i := 17) (v := ?_) (a' := ?_) (l' := #[true, true, true, true, true, true, true, true, true, true, true, true, true, true, true, true, true, true, false, false, false, false, false, false, false, false, false, false, false, false, false, false, false, false, false, false, false, false, false, false, false, false, false, false, false, false, false, false]) (d := some 191) rfl (by as_aux_lemma => kernel_rfl) (by as_aux_lemma => kernel_rfl) (by as_aux_lemma => kernel_rfl) (by as_aux_lemma => kernel_rfl) (fun _ _ _ h => h) HF.out (by as_aux_lemma => kernel_rfl) ?_ rfl rfl ?_ ?_
    rotate_left
    · intro w' hF; clear hF; go_simp; try rfl
    rotate_left
    · simp only [Act.put]; exact rfl
    refine Calm.one (i := 18) (l' := #[true, true, true, true, true, true, true, true, true, true, true, true, true, true, true, true, true, true, true, false, false, false, false, false, false, false, false, false, false, false, false, false, false, false, false, false, false, false, false, false, false, false, false, false, false, false, false, false]) (by as_aux_lemma => kernel_rfl) rfl (by as_aux_lemma => kernel_rfl) rfl fun K hK => ?_
    go_simp
    refine (r4add_any _ _ xs ys 300 _ (((PA.out.below HW.out)).below HF.out) (((PC.out.below HW.out)).below HF.out) HL.out (by have := LX.out; omega) SX.out SY.out (by decide) (by decide)).mono ?_
    rintro e z0 ⟨v, rfl, i, hb⟩
    have HF' := hide (HF.out.trans ((hb).mono HF.out.size))
    have T1 := hide (i)
    refine hK _ _ (fun _ => HF'.out) ?_
    clear hK K HF hb i
    have HF := hide HF'.out
    clear HF'
    refine Calm.one (i := 19) (l' := #[true, true, true, true, true, true, true, true, true, true, true, true, true, true, true, true, true, true, true, true, false, false, false, false, false, false, false, false, false, false, false, false, false, false, false, false, false, false, false, false, false, false, false, false, false, false, false, false]) (by as_aux_lemma => kernel_rfl) rfl (by as_aux_lemma => kernel_rfl) rfl fun K hK => ?_
    go_simp
    refine (isrow_yes _ _ (adL xs ys) _ (Xs.out.below HF.out) T1.out (fun i => SzI.len ((SzL.add HL.out SX.out SY.out) i) (by decide))).mono ?_
    rintro e z1 ⟨rfl, hb⟩
    clear T1
    have HF' := hide (HF.out.trans ((hb).mono HF.out.size))
    refine hK _ _ (fun _ => HF'.out) ?_
    clear hK K HF hb
    have HF := hide HF'.out
    clear HF'
    refine Calm.take (i := 20) (v := ?_) (a' := ?_) (l' := #[true, true, true, true, true, true, true, true, true, true, true, true, true, true, true, true, true, true, true, true, true, false, false, false, false, false, false, false, false, false, false, false, false, false, false, false, false, false, false, false, false, false, false, false, false, false, false, false]) (d := some 194) rfl (by as_aux_lemma => kernel_rfl) (by as_aux_lemma => kernel_rfl) (by as_aux_lemma => kernel_rfl) (by as_aux_lemma => kernel_rfl) (fun _ _ _ h => h) HF.out (by as_aux_lemma => kernel_rfl) ?_ rfl rfl ?_ ?_
    rotate_left
    · intro w' hF; clear hF; go_simp; try rfl
    rotate_left
    · simp only [Act.put]; exact rfl
    refine Calm.take (i := 21) (v := ?_) (a' := ?_) (l' := #[true, true, true, true, true, true, true, true, true, true, true, true, true, true, true, true, true, true, true, true, true, true, false, false, false, false, false, false, false, false, false, false, false, false, false, false, false, false, false, false, false, false, false, false, false, false, false, false]) (d := some 195) rfl (by as_aux_lemma => kernel_rfl) (by as_aux_lemma => kernel_rfl) (by as_aux_lemma => kernel_rfl) (by as_aux_lemma => kernel_rfl) (fun _ _ _ h => h) HF.out rfl ?_ rfl rfl ?_ ?_
    rotate_left
    · intro w' hF; clear hF; go_simp; try rfl
    rotate_left
    · simp only [Act.put]; exact rfl
    refine Calm.take (i := 22) (v := ?_) (a' := ?_) (l' := #[true, true, true, true, true, true, true, true, true, true, true, true, true, true, true, true, true, true, true, true, true, true, true, false, false, false, false, false, false, false, false, false, false, false, false, false, false, false, false, false, false, false, false, false, false, false, false, false]) (d := some 196) rfl (by as_aux_lemma => kernel_rfl) (by as_aux_lemma => kernel_rfl) (by as_aux_lemma => kernel_rfl) (by as_aux_lemma => kernel_rfl) (fun _ _ _ h => h) HF.out rfl ?_ rfl rfl ?_ ?_
    rotate_left
    · intro w' hF; clear hF; go_simp; try rfl
    rotate_left
    · simp only [Act.put]; exact rfl
    refine Calm.take (i := 23) (v := ?_) (a' := ?_) (l' := #[true, true, true, true, true, true, true, true, true, true, true, true, true, true, true, true, true, true, true, true, true, true, true, true, false, false, false, false, false, false, false, false, false, false, false, false, false, false, false, false, false, false, false, false, false, false, false, false]) (d := some 197) rfl (by as_aux_lemma => kernel_rfl) (by as_aux_lemma => kernel_rfl) (by as_aux_lemma => kernel_rfl) (by as_aux_lemma => kernel_rfl) (fun _ _ _ h => h) HF.out (by as_aux_lemma => kernel_rfl) ?_ rfl rfl ?_ ?_
    rotate_left
    · intro w' hF; clear hF; go_simp; try rfl
    rotate_left
    · simp only [Act.put]; exact rfl
    refine Calm.take (i := 24) (v := ?_) (a' := ?_) (l' := #[true, true, true, true, true, true, true, true, true, true, true, true, true, true, true, true, true, true, true, true, true, true, true, true, true, false, false, false, false, false, false, false, false, false, false, false, false, false, false, false, false, false, false, false, false, false, false, false]) (d := some 198) rfl (by as_aux_lemma => kernel_rfl) (by as_aux_lemma => kernel_rfl) (by as_aux_lemma => kernel_rfl) (by as_aux_lemma => kernel_rfl) (fun _ _ _ h => h) HF.out (by as_aux_lemma => kernel_rfl) ?_ rfl rfl ?_ ?_
    rotate_left
    · intro w' hF; clear hF; go_simp; try rfl
    rotate_left
    · simp only [Act.put]; exact rfl
    refine Calm.take (i := 25) (v := ?_) (a' := ?_) (l' := #[true, true, true, true, true, true, true, true, true, true, true, true, true, true, true, true, true, true, true, true, true, true, true, true, true, true, false, false, false, false, false, false, false, false, false, false, false, false, false, false, false, false, false, false, false, false, false, false]) (d := some 199) rfl (by as_aux_lemma => kernel_rfl) (by as_aux_lemma => kernel_rfl) (by as_aux_lemma => kernel_rfl) (by as_aux_lemma => kernel_rfl) (fun _ _ _ h => h) HF.out (by as_aux_lemma => kernel_rfl) ?_ rfl rfl ?_ ?_
    rotate_left
    · intro w' hF; clear hF; go_simp; try rfl
    rotate_left
    · simp only [Act.put]; exact rfl
    refine Calm.one (i := 26) (l' := #[true, true, true, true, true, true, true, true, true, true, true, true, true, true, true, true, true, true, true, true, true, true, true, true, true, true, true, false, false, false, false, false, false, false, false, false, false, false, false, false, false, false, false, false, false, false, false, false]) (by as_aux_lemma => kernel_rfl) rfl (by as_aux_lemma => kernel_rfl) rfl fun K hK => ?_
    go_simp
    refine (r4sub_any _ _ xs ys 300 _ (((PA.out.below HW.out)).below HF.out) (((PC.out.below HW.out)).below HF.out) HL.out (by have := LX.out; omega) SX.out SY.out (by decide) (by decide)).mono ?_
    rintro e z2 ⟨v, rfl, i, hb⟩
    have HF' := hide (HF.out.trans ((hb).mono HF.out.size))
    have T2 := hide (i)
    refine hK _ _ (fun _ => HF'.out) ?_
    clear hK K HF hb i
    have HF := hide HF'.out
    clear HF'
    refine Calm.one (i := 27) (l' := #[true, true, true, true, true, true, true, true, true, true, true, true, true, true, true, true, true, true, true, true, true, true, true, true, true, true, true, true, false, false, false, false, false, false, false, false, false, false, false, false, false, false, false, false, false, false, false, false]) (by as_aux_lemma => kernel_rfl) rfl (by as_aux_lemma => kernel_rfl) rfl fun K hK => ?_
    go_simp
    refine (isrow_yes _ _ (sbL xs ys) _ (Xt.out.below HF.out) T2.out (fun i => SzI.len ((SzL.sub HL.out SX.out SY.out) i) (by decide))).mono ?_
    rintro e z3 ⟨rfl, hb⟩
    clear T2
    have HF' := hide (HF.out.trans ((hb).mono HF.out.size))
    refine hK _ _ (fun _ => HF'.out) ?_
    clear hK K HF hb
    have HF := hide HF'.out
    clear HF'
    refine Calm.take (i := 28) (v := ?_) (a' := ?_) (l' := #[true, true, true, true, true, true, true, true, true, true, true, true, true, true, true, true, true, true, true, true, true, true, true, true, true, true, true, true, true, false, false, false, false, false, false, false, false, false, false, false, false, false, false, false, false, false, false, false]) (d := some 202) rfl (by as_aux_lemma => kernel_rfl) (by as_aux_lemma => kernel_rfl) (by as_aux_lemma => kernel_rfl) (by as_aux_lemma => kernel_rfl) (fun _ _ _ h => h) HF.out (by as_aux_lemma => kernel_rfl) ?_ rfl rfl ?_ ?_
    rotate_left
    · intro w' hF; clear hF; go_simp; try rfl
    rotate_left
    · simp only [Act.put]; exact rfl
    refine Calm.take (i := 29) (v := ?_) (a' := ?_) (l' := #[true, true, true, true, true, true, true, true, true, true, true, true, true, true, true, true, true, true, true, true, true, true, true, true, true, true, true, true, true, true, false, false, false, false, false, false, false, false, false, false, false, false, false, false, false, false, false, false]) (d := some 203) rfl (by as_aux_lemma => kernel_rfl) (by as_aux_lemma => kernel_rfl) (by as_aux_lemma => kernel_rfl) (by as_aux_lemma => kernel_rfl) (fun _ _ _ h => h) HF.out rfl ?_ rfl rfl ?_ ?_
    rotate_left
    · intro w' hF; clear hF; go_simp; try rfl
    rotate_left
    · simp only [Act.put]; exact rfl
    refine Calm.take (i := 30) (v := ?_) (a' := ?_) (l' := #[true, true, true, true, true, true, true, true, true, true, true, true, true, true, true, true, true, true, true, true, true, true, true, true, true, true, true, true, true, true, true, false, false, false, false, false, false, false, false, false, false, false, false, false, false, false, false, false]) (d := some 204) rfl (by as_aux_lemma => kernel_rfl) (by as_aux_lemma => kernel_rfl) (by as_aux_lemma => kernel_rfl) (by as_aux_lemma => kernel_rfl) (fun _ _ _ h => h) HF.out rfl ?_ rfl rfl ?_ ?_
    rotate_left
    · intro w' hF; clear hF; go_simp; try rfl
    rotate_left
    · simp only [Act.put]; exact rfl
    refine Calm.take (i := 31) (v := ?_) (a' := ?_) (l' := #[true, true, true, true, true, true, true, true, true, true, true, true, true, true, true, true, true, true, true, true, true, true, true, true, true, true, true, true, true, true, true, true, false, false, false, false, false, false, false, false, false, false, false, false, false, false, false, false]) (d := some 205) rfl (by as_aux_lemma => kernel_rfl) (by as_aux_lemma => kernel_rfl) (by as_aux_lemma => kernel_rfl) (by as_aux_lemma => kernel_rfl) (fun _ _ _ h => h) HF.out (by as_aux_lemma => kernel_rfl) ?_ rfl rfl ?_ ?_
    rotate_left
    · intro w' hF; clear hF; go_simp; try rfl
    rotate_left
    · simp only [Act.put]; exact rfl
    refine Calm.take (i := 32) (v := ?_) (a' := ?_) (l' := #[true, true, true, true, true, true, true, true, true, true, true, true, true, true, true, true, true, true, true, true, true, true, true, true, true, true, true, true, true, true, true, true, true, false, false, false, false, false, false, false, false, false, false, false, false, false, false, false]) (d := some 206) rfl (by as_aux_lemma => kernel_rfl) (by as_aux_lemma => kernel_rfl) (by as_aux_lemma => kernel_rfl) (by as_aux_lemma => kernel_rfl) (fun _ _ _ h => h) HF.out (by as_aux_lemma => kernel_rfl) ?_ rfl rfl ?_ ?_
    rotate_left
    · intro w' hF; have f0 := ((Vb1.out.step HW.out).step hF).cell0; have f1 := ((Vb1.out.step HW.out).step hF).cell1; have f2 := ((Vb2.out.step HW.out).step hF).cell0; have f3 := ((Vb2.out.step HW.out).step hF).cell1; have f4 := (VP.out.step hF).cell0; have f5 := (VP.out.step hF).cell1; clear hF; go_simp; try rfl
    rotate_left
    · simp only [Act.put]; exact rfl
    refine Calm.take (i := 33) (v := ?_) (a' := ?_) (l' := #[true, true, true, true, true, true, true, true, true, true, true, true, true, true, true, true, true, true, true, true, true, true, true, true, true, true, true, true, true, true, true, true, true, true, false, false, false, false, false, false, false, false, false, false, false, false, false, false]) (d := some 207) rfl (by as_aux_lemma => kernel_rfl) (by as_aux_lemma => kernel_rfl) (by as_aux_lemma => kernel_rfl) (by as_aux_lemma => kernel_rfl) (fun _ _ _ h => h) HF.out (by as_aux_lemma => kernel_rfl) ?_ rfl rfl ?_ ?_
    rotate_left
    · intro w' hF; clear hF; go_simp; try rfl
    rotate_left
    · simp only [Act.put]; exact rfl
    refine Calm.take (i := 34) (v := ?_) (a' := ?_) (l' := #[true, true, true, true, true, true, true, true, true, true, true, true, true, true, true, true, true, true, true, true, true, true, true, true, true, true, true, true, true, true, true, true, true, true, true, false, false, false, false, false, false, false, false, false, false, false, false, false]) (d := some 208) rfl (by as_aux_lemma => kernel_rfl) (by as_aux_lemma => kernel_rfl) (by as_aux_lemma => kernel_rfl) (by as_aux_lemma => kernel_rfl) (fun _ _ _ h => h) HF.out (by as_aux_lemma => kernel_rfl) ?_ rfl rfl ?_ ?_
    rotate_left
    · intro w' hF; have f0 := ((Vb1.out.step HW.out).step hF).cell0; have f1 := ((Vb1.out.step HW.out).step hF).cell1; have f2 := ((Vb2.out.step HW.out).step hF).cell0; have f3 := ((Vb2.out.step HW.out).step hF).cell1; have f4 := (VP.out.step hF).cell0; have f5 := (VP.out.step hF).cell1; clear hF; go_simp; try rfl
    rotate_left
    · simp only [Act.put]; exact rfl
    refine Calm.take (i := 35) (v := ?_) (a' := ?_) (l' := #[true, true, true, true, true, true, true, true, true, true, true, true, true, true, true, true, true, true, true, true, true, true, true, true, true, true, true, true, true, true, true, true, true, true, true, true, false, false, false, false, false, false, false, false, false, false, false, false]) (d := some 209) rfl (by as_aux_lemma => kernel_rfl) (by as_aux_lemma => kernel_rfl) (by as_aux_lemma => kernel_rfl) (by as_aux_lemma => kernel_rfl) (fun _ _ _ h => h) HF.out (by as_aux_lemma => kernel_rfl) ?_ rfl rfl ?_ ?_
    rotate_left
    · intro w' hF; clear hF; go_simp; try rfl
    rotate_left
    · simp only [Act.put]; exact rfl
    refine Calm.one (i := 36) (l' := #[true, true, true, true, true, true, true, true, true, true, true, true, true, true, true, true, true, true, true, true, true, true, true, true, true, true, true, true, true, true, true, true, true, true, true, true, true, false, false, false, false, false, false, false, false, false, false, false]) (by as_aux_lemma => kernel_rfl) rfl (by as_aux_lemma => kernel_rfl) rfl fun K hK => ?_
    go_simp
    refine (rcomb_any _ _ _ _ xs ys m n 300 _ (((Ib1.out.below HW.out)).below HF.out) (((PA.out.below HW.out)).below HF.out) (((Ib2.out.below HW.out)).below HF.out) (((PC.out.below HW.out)).below HF.out) HL.out (by have := LX.out; omega) SX.out SY.out SM.out SN.out (by decide)).mono ?_
    rintro e z4 ⟨v, rfl, i, hb⟩
    have HF' := hide (HF.out.trans ((hb).mono HF.out.size))
    have T3 := hide (i)
    refine hK _ _ (fun _ => HF'.out) ?_
    clear hK K HF hb i
    have HF := hide HF'.out
    clear HF'
    refine Calm.one (i := 37) (l' := #[true, true, true, true, true, true, true, true, true, true, true, true, true, true, true, true, true, true, true, true, true, true, true, true, true, true, true, true, true, true, true, true, true, true, true, true, true, true, false, false, false, false, false, false, false, false, false, false]) (by as_aux_lemma => kernel_rfl) rfl (by as_aux_lemma => kernel_rfl) rfl fun K hK => ?_
    go_simp
    refine (isrow_yes _ _ (cbL m xs n ys) _ (Xu.out.below HF.out) T3.out (fun i => SzI.len ((SzL.comb HL.out SX.out SY.out SM.out SN.out) i) (by decide))).mono ?_
    rintro e z5 ⟨rfl, hb⟩
    clear T3
    have HF' := hide (HF.out.trans ((hb).mono HF.out.size))
    refine hK _ _ (fun _ => HF'.out) ?_
    clear hK K HF hb
    have HF := hide HF'.out
    clear HF'
    refine Calm.take (i := 38) (v := ?_) (a' := ?_) (l' := #[true, true, true, true, true, true, true, true, true, true, true, true, true, true, true, true, true, true, true, true, true, true, true, true, true, true, true, true, true, true, true, true, true, true, true, true, true, true, true, false, false, false, false, false, false, false, false, false]) (d := some 212) rfl (by as_aux_lemma => kernel_rfl) (by as_aux_lemma => kernel_rfl) (by as_aux_lemma => kernel_rfl) (by as_aux_lemma => kernel_rfl) (fun _ _ _ h => h) HF.out (by as_aux_lemma => kernel_rfl) ?_ rfl rfl ?_ ?_
    rotate_left
    · intro w' hF; clear hF; go_simp; try rfl
    rotate_left
    · simp only [Act.put]; exact rfl
    refine Calm.take (i := 39) (v := ?_) (a' := ?_) (l' := #[true, true, true, true, true, true, true, true, true, true, true, true, true, true, true, true, true, true, true, true, true, true, true, true, true, true, true, true, true, true, true, true, true, true, true, true, true, true, true, true, false, false, false, false, false, false, false, false]) (d := some 213) rfl (by as_aux_lemma => kernel_rfl) (by as_aux_lemma => kernel_rfl) (by as_aux_lemma => kernel_rfl) (by as_aux_lemma => kernel_rfl) (fun _ _ _ h => h) HF.out rfl ?_ rfl rfl ?_ ?_
    rotate_left
    · intro w' hF; clear hF; go_simp; try rfl
    rotate_left
    · simp only [Act.put]; exact rfl
    refine Calm.take (i := 40) (v := ?_) (a' := ?_) (l' := #[true, true, true, true, true, true, true, true, true, true, true, true, true, true, true, true, true, true, true, true, true, true, true, true, true, true, true, true, true, true, true, true, true, true, true, true, true, true, true, true, true, false, false, false, false, false, false, false]) (d := some 214) rfl (by as_aux_lemma => kernel_rfl) (by as_aux_lemma => kernel_rfl) (by as_aux_lemma => kernel_rfl) (by as_aux_lemma => kernel_rfl) (fun _ _ _ h => h) HF.out rfl ?_ rfl rfl ?_ ?_
    rotate_left
    · intro w' hF; clear hF; go_simp; try rfl
    rotate_left
    · simp only [Act.put]; exact rfl
    refine Calm.take (i := 41) (v := ?_) (a' := ?_) (l' := #[true, true, true, true, true, true, true, true, true, true, true, true, true, true, true, true, true, true, true, true, true, true, true, true, true, true, true, true, true, true, true, true, true, true, true, true, true, true, true, true, true, true, false, false, false, false, false, false]) (d := some 215) rfl (by as_aux_lemma => kernel_rfl) (by as_aux_lemma => kernel_rfl) (by as_aux_lemma => kernel_rfl) (by as_aux_lemma => kernel_rfl) (fun _ _ _ h => h) HF.out (by as_aux_lemma => kernel_rfl) ?_ rfl rfl ?_ ?_
    rotate_left
    · intro w' hF; have f0 := ((Vb1.out.step HW.out).step hF).cell0; have f1 := ((Vb1.out.step HW.out).step hF).cell1; have f2 := ((Vb2.out.step HW.out).step hF).cell0; have f3 := ((Vb2.out.step HW.out).step hF).cell1; have f4 := (VP.out.step hF).cell0; have f5 := (VP.out.step hF).cell1; clear hF; go_simp; try rfl
    rotate_left
    · simp only [Act.put]; exact rfl
    refine Calm.take (i := 42) (v := ?_) (a' := ?_) (l' := #[true, true, true, true, true, true, true, true, true, true, true, true, true, true, true, true, true, true, true, true, true, true, true, true, true, true, true, true, true, true, true, true, true, true, true, true, true, true, true, true, true, true, true, false, false, false, false, false]) (d := some 216) rfl (by as_aux_lemma => kernel_rfl) (by as_aux_lemma => kernel_rfl) (by as_aux_lemma => kernel_rfl) (by as_aux_lemma => kernel_rfl) (fun _ _ _ h => h) HF.out (by as_aux_lemma => kernel_rfl) ?_ rfl rfl ?_ ?_
    rotate_left
    · intro w' hF; clear hF; go_simp; try rfl
    rotate_left
    · simp only [Act.put]; exact rfl
    refine Calm.take (i := 43) (v := ?_) (a' := ?_) (l' := #[true, true, true, true, true, true, true, true, true, true, true, true, true, true, true, true, true, true, true, true, true, true, true, true, true, true, true, true, true, true, true, true, true, true, true, true, true, true, true, true, true, true, true, true, false, false, false, false]) (d := some 217) rfl (by as_aux_lemma => kernel_rfl) (by as_aux_lemma => kernel_rfl) (by as_aux_lemma => kernel_rfl) (by as_aux_lemma => kernel_rfl) (fun _ _ _ h => h) HF.out (by as_aux_lemma => kernel_rfl) ?_ rfl rfl ?_ ?_
    rotate_left
    · intro w' hF; clear hF; go_simp; try rfl
    rotate_left
    · simp only [Act.put]; exact rfl
    refine Calm.one (i := 44) (l' := #[true, true, true, true, true, true, true, true, true, true, true, true, true, true, true, true, true, true, true, true, true, true, true, true, true, true, true, true, true, true, true, true, true, true, true, true, true, true, true, true, true, true, true, true, true, false, false, false]) (by as_aux_lemma => kernel_rfl) rfl (by as_aux_lemma => kernel_rfl) rfl fun K hK => ?_
    go_simp
    refine (r4dot_any _ _ xs ys 300 _ (((PA.out.below HW.out)).below HF.out) (((PC.out.below HW.out)).below HF.out) HL.out (by have := LX.out; omega) SX.out SY.out (by decide)).mono ?_
    rintro e z6 ⟨v, rfl, i, hb⟩
    have HF' := hide (HF.out.trans ((hb).mono HF.out.size))
    have T4 := hide (i)
    refine hK _ _ (fun _ => HF'.out) ?_
    clear hK K HF hb i
    have HF := hide HF'.out
    clear HF'
    refine Calm.one (i := 45) (l' := #[true, true, true, true, true, true, true, true, true, true, true, true, true, true, true, true, true, true, true, true, true, true, true, true, true, true, true, true, true, true, true, true, true, true, true, true, true, true, true, true, true, true, true, true, true, true, false, false]) (by as_aux_lemma => kernel_rfl) rfl (by as_aux_lemma => kernel_rfl) rfl fun K hK => ?_
    go_simp
    refine (one_yes _ _ (dotL xs ys) _ (IP.out.below HF.out) T4.out (SzI.len (dotL_sz SX.out SY.out LX.out) (by decide))).mono ?_
    rintro e z7 ⟨rfl, hb⟩
    clear T4
    have HF' := hide (HF.out.trans ((hb).mono HF.out.size))
    refine hK _ _ (fun _ => HF'.out) ?_
    clear hK K HF hb
    have HF := hide HF'.out
    clear HF'
    refine Calm.take (i := 46) (v := ?_) (a' := ?_) (l' := #[true, true, true, true, true, true, true, true, true, true, true, true, true, true, true, true, true, true, true, true, true, true, true, true, true, true, true, true, true, true, true, true, true, true, true, true, true, true, true, true, true, true, true, true, true, true, true, false]) (d := some 220) rfl (by as_aux_lemma => kernel_rfl) (by as_aux_lemma => kernel_rfl) (by as_aux_lemma => kernel_rfl) (by as_aux_lemma => kernel_rfl) (fun _ _ _ h => h) HF.out (by as_aux_lemma => kernel_rfl) ?_ rfl rfl ?_ ?_
    rotate_left
    · intro w' hF; clear hF; go_simp; try rfl
    rotate_left
    · simp only [Act.put]; exact rfl
    refine Calm.take (i := 47) (v := ?_) (a' := ?_) (l' := #[true, true, true, true, true, true, true, true, true, true, true, true, true, true, true, true, true, true, true, true, true, true, true, true, true, true, true, true, true, true, true, true, true, true, true, true, true, true, true, true, true, true, true, true, true, true, true, true]) (d := some 221) rfl (by as_aux_lemma => kernel_rfl) (by as_aux_lemma => kernel_rfl) (by as_aux_lemma => kernel_rfl) (by as_aux_lemma => kernel_rfl) (fun _ _ _ h => h) HF.out rfl ?_ rfl rfl ?_ ?_
    rotate_left
    · intro w' hF; clear hF; go_simp; try rfl
    rotate_left
    · simp only [Act.put]; exact rfl
    refine Calm.done (by as_aux_lemma => kernel_rfl) ?_
    replace HB := hide (HB.out.trans ((HF.out).mono HB.out.size))
    replace HW := hide (HW.out.trans ((HF.out).mono HW.out.size))
    replace Rs := hide (Rs.out.step (HF.out))
    replace Rt := hide (Rt.out.step (HF.out))
    replace Ru := hide (Ru.out.step (HF.out))
    replace IP := hide (IP.out.below (HF.out))
    replace VP := hide (VP.out.step (HF.out))
    clear HF Xs Xt Xu VP IP
    go_wp2_with fail
    refine (own_row bs xs.length (adL xs ys) _ _ xs wq2 _ (by first | exact adL_len _ _ | exact sbL_len _ _ | exact cbL_len _ _ _ _ | exact scL_len _ _) HW.out GEs.out Rs.out (by have := LX.out; omega) XA.out PA.out (fun i => SzI.len (SX.out i) (by decide))).mono ?_
    rintro e w23 ⟨rfl, hkb, hW⟩
    replace HB := hide (below_keptS HB.out hkb (Nat.le_trans LW7.out GEs.out) HB.out.size)
    replace HW := hide hW
    replace Rt := hide (Rt.out.kept hkb (Nat.ne_of_gt LTst.out))
    replace Ru := hide (Ru.out.kept hkb (Nat.ne_of_gt LTsu.out))
    clear hkb hW Rs
    go_wp2_with fail
    refine (own_row bt xs.length (sbL xs ys) _ _ ys wq2 _ (by first | exact adL_len _ _ | exact sbL_len _ _ | exact cbL_len _ _ _ _ | exact scL_len _ _) HW.out GEt.out Rt.out (by have := LX.out; omega) XC.out PC.out (fun i => SzI.len (SY.out i) (by decide))).mono ?_
    rintro e w24 ⟨rfl, hkb, hW⟩
    replace HB := hide (below_keptS HB.out hkb (Nat.le_trans LW7.out GEt.out) HB.out.size)
    replace HW := hide hW
    replace Ru := hide (Ru.out.kept hkb (Nat.ne_of_gt LTtu.out))
    clear hkb hW Rt
    go_wp2_with fail
    refine (own_row bu xs.length (cbL m xs n ys) _ _ xs wq2 _ (by first | exact adL_len _ _ | exact sbL_len _ _ | exact cbL_len _ _ _ _ | exact scL_len _ _) HW.out GEu.out Ru.out (by have := LX.out; omega) XA.out PA.out (fun i => SzI.len (SX.out i) (by decide))).mono ?_
    rintro e w25 ⟨rfl, hkb, hW⟩
    replace HB := hide (below_keptS HB.out hkb (Nat.le_trans LW7.out GEu.out) HB.out.size)
    replace HW := hide hW
    clear hkb hW Ru
    go_wp2
    go_ret
    exact ⟨rfl, HB.out⟩
  · skip
    have HL : Hid (xs.length ≠ ys.length) := hide (by rw [LNX.out, LNY.out]; exact hlen)
    have hne : (((ns.length : Nat) : Int) != ((ms.length : Nat) : Int)) = true := by simp; omega
    clear hlen
    go_wp2_with fail
    refine (radd_no _ _ xs ys _ (XA.out.below HW.out) (XC.out.below HW.out) HL.out).mono ?_
    rintro e w10 ⟨rfl, hb⟩
    replace HB := hide (HB.out.trans ((hb).mono HB.out.size))
    replace HW := hide (HW.out.trans ((hb).mono HW.out.size))
    clear hb
    go_wp2_with fail
    refine (rsub_no _ _ xs ys _ (XA.out.below HW.out) (XC.out.below HW.out) HL.out).mono ?_
    rintro e w11 ⟨rfl, hb⟩
    replace HB := hide (HB.out.trans ((hb).mono HB.out.size))
    replace HW := hide (HW.out.trans ((hb).mono HW.out.size))
    clear hb
    have Va10 := (Va1.out.step HW.out).cell0
    have Va11 := (Va1.out.step HW.out).cell1
    have Va20 := (Va2.out.step HW.out).cell0
    have Va21 := (Va2.out.step HW.out).cell1
    go_wp2_with fail
    refine (rcombine_no _ _ _ _ xs ys m n _ (Ia1.out.below HW.out) (XA.out.below HW.out) (Ia2.out.below HW.out) (XC.out.below HW.out) HL.out).mono ?_
    rintro e w12 ⟨rfl, hb⟩
    clear Va10 Va11
    clear Va20 Va21
    replace HB := hide (HB.out.trans ((hb).mono HB.out.size))
    replace HW := hide (HW.out.trans ((hb).mono HW.out.size))
    clear hb
    go_wp2_with fail
    refine (rdot_no _ _ xs ys _ (XA.out.below HW.out) (XC.out.below HW.out) HL.out).mono ?_
    rintro e w13 ⟨v, rfl, i, hb⟩
    obtain ⟨sp, mp, lp, cp, rfl, i⟩ := i.cells
    replace HB := hide (HB.out.trans ((hb).mono HB.out.size))
    replace HW := hide (HW.out.trans ((hb).mono HW.out.size))
    have IP := hide i
    clear i hb
    go_upto_region 14 with fail
    have hb := below_alloc w13 (.cells #[.bool sp, .slice mp lp cp] 36)
    replace HB := hide (HB.out.trans ((hb).mono HB.out.size))
    replace HW := hide (HW.out.trans ((hb).mono HW.out.size))
    replace IP := hide (IP.out.below (hb))
    clear hb
    have VP := hide (Box.new w13 (.bool sp) (.slice mp lp cp))
    generalize w13.alloc (.cells #[.bool sp, .slice mp lp cp] 36) = w14 at *
    generalize w13.heap.size = gp at *
    refine wp_calm (fun w' => Below w14.heap.size w14 w') (fun _ => true) 7 #[false, false, false, false, false, false, false] (by as_aux_lemma => kernel_rfl) rfl rfl ?_
    have HF := hide ((Below.refl w14.heap.size w14).drew)
    generalize w14.drew = w14d at *
    refine Calm.take (i := 0) (v := ?_) (a' := ?_) (l' := #[true, false, false, false, false, false, false]) (d := some 98) rfl (by as_aux_lemma => kernel_rfl) (by as_aux_lemma => kernel_rfl) (by as_aux_lemma => kernel_rfl) (by as_aux_lemma => kernel_rfl) (fun _ _ _ h => h) HF.out rfl ?_ rfl rfl ?_ ?_
    rotate_left
    · intro w' hF; clear hF; go_simp; try rfl
    rotate_left
    · simp only [Act.put]; exact rfl
    refine Calm.take (i := 2) (v := ?_) (a' := ?_) (l' := #[true, false, true, false, false, false, false]) (d := some 100) rfl (by as_aux_lemma => kernel_rfl) (by as_aux_lemma => kernel_rfl) (by as_aux_lemma => kernel_rfl) (by as_aux_lemma => kernel_rfl) (fun _ _ _ h => h) HF.out rfl ?_ rfl rfl ?_ ?_
    rotate_left
    · intro w' hF; clear hF; go_simp; try rfl
    rotate_left
    · simp only [Act.put]; exact rfl
    refine Calm.take (i := 3) (v := ?_) (a' := ?_) (l' := #[true, false, true, true, false, false, false]) (d := some 101) rfl (by as_aux_lemma => kernel_rfl) (by as_aux_lemma => kernel_rfl) (by as_aux_lemma => kernel_rfl) (by as_aux_lemma => kernel_rfl) (fun _ _ _ h => h) HF.out rfl ?_ rfl rfl ?_ ?_
    rotate_left
    · intro w' hF; have f0 := ((Va1.out.step HW.out).step hF).cell0; have f1 := ((Va1.out.step HW.out).step hF).cell1; clear hF; go_simp; try rfl
    rotate_left
    · simp only [Act.put]; exact rfl
    refine Calm.one (i := 1) (l' := #[true, true, true, true, false, false, false]) (by as_aux_lemma => kernel_rfl) rfl rfl rfl fun K hK => ?_
    go_simp
    refine (rnegL_any _ xs _ (((XA.out.below HW.out)).below HF.out) (by have := LX.out; omega)).mono ?_
    rintro e y1 ⟨bv, rfl, hge, hr, hb⟩
    rw [neg_scale] at hr
    have Gv := hide (Nat.le_trans HF.out.size hge)
    have HF' := hide (HF.out.trans ((hb).mono HF.out.size))
    have Rv := hide (hr)
    refine hK _ _ (fun _ => HF'.out) ?_
    clear hK K HF hb hr hge
    have HF := hide HF'.out
    clear HF'
    refine Calm.one (i := 4) (l' := #[true, true, true, true, true, false, false]) (by as_aux_lemma => kernel_rfl) rfl rfl rfl fun K hK => ?_
    go_simp
    refine (rscale_any _ _ xs m 300 _ (((XA.out.below HW.out)).below HF.out) (((Ia1.out.below HW.out)).below HF.out) (by have := LX.out; omega) SX.out SM.out (by decide)).mono ?_
    rintro e y2 ⟨bw, rfl, hge, hr, hb⟩
    replace hr : IRow _ bw (scL xs m) := hr
    have Gw := hide (Nat.le_trans HF.out.size hge)
    have LTvw := hide (Nat.lt_of_lt_of_le Rv.out.lt hge)
    replace Rv := hide (Rv.out.step (hb))
    have HF' := hide (HF.out.trans ((hb).mono HF.out.size))
    have Rw := hide (hr)
    refine hK _ _ (fun _ => HF'.out) ?_
    clear hK K HF hb hr hge
    have HF := hide HF'.out
    clear HF'
    refine Calm.take (i := 5) (v := ?_) (a' := ?_) (l' := #[true, true, true, true, true, true, false]) (d := some 23) rfl (by as_aux_lemma => kernel_rfl) (by as_aux_lemma => kernel_rfl) (by as_aux_lemma => kernel_rfl) (by as_aux_lemma => kernel_rfl) (fun _ _ _ h => h) HF.out rfl ?_ rfl rfl ?_ ?_
    rotate_left
    · intro w' hF; clear hF; go_simp; try rfl
    rotate_left
    · simp only [Act.put]; exact rfl
    refine Calm.take (i := 6) (v := ?_) (a' := ?_) (l' := #[true, true, true, true, true, true, true]) (d := some 24) rfl (by as_aux_lemma => kernel_rfl) (by as_aux_lemma => kernel_rfl) (by as_aux_lemma => kernel_rfl) (by as_aux_lemma => kernel_rfl) (fun _ _ _ h => h) HF.out rfl ?_ rfl rfl ?_ ?_
    rotate_left
    · intro w' hF; clear hF; go_simp; try rfl
    rotate_left
    · simp only [Act.put]; exact rfl
    refine Calm.done (by as_aux_lemma => kernel_rfl) ?_
    have LTpv : Hid (gp < bv) := hide (Nat.lt_of_lt_of_le VP.out.lt Gv.out)
    have GEv : Hid (wq2.heap.size ≤ bv) := hide (Nat.le_trans HW.out.size Gv.out)
    have LTpw : Hid (gp < bw) := hide (Nat.lt_of_lt_of_le VP.out.lt Gw.out)
    have GEw : Hid (wq2.heap.size ≤ bw) := hide (Nat.le_trans HW.out.size Gw.out)
    replace HB := hide (HB.out.trans ((HF.out).mono HB.out.size))
    replace HW := hide (HW.out.trans ((HF.out).mono HW.out.size))
    replace IP := hide (IP.out.below (HF.out))
    replace VP := hide (VP.out.step (HF.out))
    clear HF Gv Gw
    go_wp2_with fail
    refine (rof_any (-1) _ (by decide) (by decide)).mono ?_
    rintro e w15 ⟨v, rfl, i, hb⟩
    replace HB := hide (HB.out.trans ((hb).mono HB.out.size))
    replace HW := hide (HW.out.trans ((hb).mono HW.out.size))
    replace IP := hide (IP.out.below (hb))
    replace VP := hide (VP.out.step (hb))
    replace Rv := hide (Rv.out.step (hb))
    replace Rw := hide (Rw.out.step (hb))
    have T1 := hide i
    clear i hb
    go_wp2_with fail
    refine (r4scale_any _ _ xs (-1) 300 _ (PA.out.below HW.out) T1.out (by have := LX.out; omega) SX.out (SzI.one.neg.mono (by decide)) (by decide)).mono ?_
    rintro e w16 ⟨v, rfl, i, hb⟩
    replace HB := hide (HB.out.trans ((hb).mono HB.out.size))
    replace HW := hide (HW.out.trans ((hb).mono HW.out.size))
    replace IP := hide (IP.out.below (hb))
    replace VP := hide (VP.out.step (hb))
    replace Rv := hide (Rv.out.step (hb))
    replace Rw := hide (Rw.out.step (hb))
    replace T1 := hide (T1.out.below (hb))
    have T2 := hide i
    clear i hb T1
    go_wp2_with fail
    refine (isrow_yes _ _ (scL xs (-1)) _ (irow_intsS Rv.out (by first | exact adL_len _ _ | exact sbL_len _ _ | exact cbL_len _ _ _ _ | exact scL_len _ _) (by have := LX.out; unfold maxLen; omega)) T2.out (fun i => SzI.len ((SzL.scale (z := (-1)) SX.out (SzI.one.neg)) i) (by decide))).mono ?_
    rintro e w17 ⟨rfl, hb⟩
    replace HB := hide (HB.out.trans ((hb).mono HB.out.size))
    replace HW := hide (HW.out.trans ((hb).mono HW.out.size))
    replace IP := hide (IP.out.below (hb))
    replace VP := hide (VP.out.step (hb))
    replace Rv := hide (Rv.out.step (hb))
    replace Rw := hide (Rw.out.step (hb))
    replace T2 := hide (T2.out.below (hb))
    clear hb T2
    have Vb10 := (Vb1.out.step HW.out).cell0
    have Vb11 := (Vb1.out.step HW.out).cell1
    go_wp2_with fail
    refine (r4scale_any _ _ xs m 300 _ (PA.out.below HW.out) (Ib1.out.below HW.out) (by have := LX.out; omega) SX.out SM.out (by decide)).mono ?_
    rintro e w18 ⟨v, rfl, i, hb⟩
    clear Vb10 Vb11
    replace HB := hide (HB.out.trans ((hb).mono HB.out.size))
    replace HW := hide (HW.out.trans ((hb).mono HW.out.size))
    replace IP := hide (IP.out.below (hb))
    replace VP := hide (VP.out.step (hb))
    replace Rv := hide (Rv.out.step (hb))
    replace Rw := hide (Rw.out.step (hb))
    have T2 := hide i
    clear i hb
    go_wp2_with fail
    refine (isrow_yes _ _ (scL xs m) _ (irow_intsS Rw.out (by first | exact adL_len _ _ | exact sbL_len _ _ | exact cbL_len _ _ _ _ | exact scL_len _ _) (by have := LX.out; unfold maxLen; omega)) T2.out (fun i => SzI.len ((SX.out.scale SM.out) i) (by decide))).mono ?_
    rintro e w19 ⟨rfl, hb⟩
    replace HB := hide (HB.out.trans ((hb).mono HB.out.size))
    replace HW := hide (HW.out.trans ((hb).mono HW.out.size))
    replace IP := hide (IP.out.below (hb))
    replace VP := hide (VP.out.step (hb))
    replace Rv := hide (Rv.out.step (hb))
    replace Rw := hide (Rw.out.step (hb))
    replace T2 := hide (T2.out.below (hb))
    clear hb T2
    go_wp2_with fail
    refine (own_row bv xs.length (scL xs (-1)) _ _ xs wq2 _ (by first | exact adL_len _ _ | exact sbL_len _ _ | exact cbL_len _ _ _ _ | exact scL_len _ _) HW.out GEv.out Rv.out (by have := LX.out; omega) XA.out PA.out (fun i => SzI.len (SX.out i) (by decide))).mono ?_
    rintro e w20 ⟨rfl, hkb, hW⟩
    replace HB := hide (below_keptS HB.out hkb (Nat.le_trans LW7.out GEv.out) HB.out.size)
    replace HW := hide hW
    replace Rw := hide (Rw.out.kept hkb (Nat.ne_of_gt LTvw.out))
    replace VP := hide (VP.out.kept hkb (Nat.ne_of_lt LTpv.out))
    replace IP := hide (IP.out.keep hkb.limbs)
    clear hkb hW Rv
    go_wp2_with fail
    refine (own_row bw xs.length (scL xs m) _ _ xs wq2 _ (by first | exact adL_len _ _ | exact sbL_len _ _ | exact cbL_len _ _ _ _ | exact scL_len _ _) HW.out GEw.out Rw.out (by have := LX.out; omega) XA.out PA.out (fun i => SzI.len (SX.out i) (by decide))).mono ?_
    rintro e w21 ⟨rfl, hkb, hW⟩
    replace HB := hide (below_keptS HB.out hkb (Nat.le_trans LW7.out GEw.out) HB.out.size)
    replace HW := hide hW
    replace VP := hide (VP.out.kept hkb (Nat.ne_of_lt LTpw.out))
    replace IP := hide (IP.out.keep hkb.limbs)
    clear hkb hW Rw
    go_wp2_with fail
    refine (rlive_any _).mono ?_
    rintro e w22 ⟨rfl, hb⟩
    replace HB := hide (HB.out.trans ((hb).mono HB.out.size))
    replace HW := hide (HW.out.trans ((hb).mono HW.out.size))
    replace IP := hide (IP.out.below (hb))
    replace VP := hide (VP.out.step (hb))
    clear hb
    have VP0 := VP.out.cell0
    have VP1 := VP.out.cell1
    go_wp2_with fail
    refine (isign_any _ 0 _ IP.out).mono ?_
    rintro e w23 ⟨rfl, hb⟩
    rw [show sgnI 0 = 0 from rfl]
    replace HB := hide (HB.out.trans ((hb).mono HB.out.size))
    replace HW := hide (HW.out.trans ((hb).mono HW.out.size))
    replace IP := hide (IP.out.below (hb))
    replace VP := hide (VP.out.step (hb))
    clear hb
    go_wp2
    go_ret
    exact ⟨rfl, HB.out⟩
end Go.Proofs.Ytngdnekbajnomaa
