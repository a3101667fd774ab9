/- row.Neg; row's Add, Sub, Combine, Dot of rows that are not as long as each other. -/
import Derived.Test.YtngdnekbajnomaaWMod
namespace Go.Proofs.Ytngdnekbajnomaa
open Go.RowKit

set_option maxRecDepth 100000 in
set_option maxHeartbeats 2000000 in
theorem neg1_any (i : Nat) (ga : Nat) (va : Value) (xs : List Int) (w : World) (hi : i < xs.length) (ha : CellAt w ⟨ga, 0, none⟩ va) (h1 : Ints w va xs) :
    Calls Try.prog 37 #[.int .i64 i, .pointer (some ⟨ga, 0, none⟩)] w fun e w' => ∃ v, e = .returned v ∧ IntAt w' v (-(xs.getD i 0)) ∧ Below w.heap.size w w' := by
  obtain ⟨aa, ca, rfl, _, hma, _⟩ := id h1
  obtain ⟨b1, o1, rfl, s, m, l, c, k1, k2, k3⟩ := h1.at hi
  have HP := hide (Box.new w (.bool false) (.slice none 0 0))
  have HB := hide (below_alloc w (.cells #[.bool false, .slice none 0 0] 36))
  have KA := hide (ha.step HB.out)
  have K1 := hide (k1.step HB.out)
  have K2 := hide (k2.step HB.out)
  have I1 := hide (k3.below HB.out)
  have LA := ha.blt
  have LB := k1.blt
  have e0 := ha.out
  have e1 := k1.out
  have e2 := k2.out
  unfold maxLen at hma
  clear ha h1 k1 k2 k3
  generalize xs.getD i 0 = x at *
  go_enter Try.func37, Try.ntmps37
  go_wp2_with fail
  clear e0 e1 e2 LA LB
  generalize w.alloc (.cells #[.bool false, .slice none 0 0] 36) = w0 at *
  refine (ineg_any _ x _ I1.out).mono ?_
  rintro e w1 ⟨v, rfl, n, hb⟩
  obtain ⟨sr, mr, lr, cr, rfl, n⟩ := n.cells
  replace HP := hide (HP.out.step hb)
  replace HB := hide (HB.out.trans (hb.mono HB.out.size))
  have IV := hide n
  clear hb n
  have c0 := HP.out.cell0
  have c1 := HP.out.cell1
  have f0 := HP.out.free 0
  have f1 := HP.out.free 1
  go_wp2
  refine ret_int rfl w.heap.size _ _ _ _ rfl (HP.out.put _ _) rfl ?_
  exact ⟨_, rfl, IV.out.keep (HP.out.keeps (by simp) (by simp) _ _), below_put HB.out (Nat.le_refl _) _ _⟩

set_option maxRecDepth 100000 in
set_option maxHeartbeats 2000000 in
theorem rnegL_any (va : Value) (xs : List Int) (w : World) (h1 : Ints w va xs) (hm : xs.length ≤ 4000000000) :
    Calls Try.prog 13 #[va] w fun e w' => ∃ b, e = .returned (.slice (some ⟨b, 0, none⟩) xs.length xs.length) ∧ w.heap.size ≤ b ∧ IRow w' b ((List.range xs.length).map fun i => -(xs.getD i 0)) ∧ Below w.heap.size w w' := by
  have H1 := hide h1
  obtain ⟨aa, ca, rfl, _, hma, _⟩ := h1
  have WA := hide (one_new w (.slice aa xs.length ca) 30)
  have HB := hide (below_alloc w (.cells #[.slice aa xs.length ca] 30))
  have hmk := mkf
  unfold maxLen at hma
  go_enter Try.func13, Try.ntmps13
  go_wp2_with fail
  generalize w.alloc (.cells #[.slice aa xs.length ca] 30) = w0 at *
  refine (each_any xs.length 37 #[.pointer (some ⟨w.heap.size, 0, none⟩)] (fun i => -(xs.getD i 0)) _ hm (enters_of Try.func37 (by kernel_rfl) rfl) fun i w' hi hb => neg1_any i w.heap.size _ xs w' hi (WA.out.step hb) ((H1.out.below HB.out).below hb)).mono ?_
  rintro e w1 ⟨rfl, hr, hb⟩
  have HR := hide hr
  have HS := hide HB.out.size
  replace HB := hide (HB.out.trans (hb.mono HB.out.size))
  clear hr hb
  go_wp2
  go_ret
  exact ⟨_, rfl, HS.out, HR.out, HB.out⟩

set_option maxRecDepth 100000 in
set_option maxHeartbeats 2000000 in
theorem radd_no (va vb : Value) (xs ys : List Int) (w : World) (h1 : Ints w va xs) (h2 : Ints w vb ys) (hl : xs.length ≠ ys.length) :
    Calls Try.prog 9 #[va, vb] w fun e w' => e = .returned (.tuple #[.slice none 0 0, .int .i64 5]) ∧ Below w.heap.size w w' := by
  have H1 := hide h1
  have H2 := hide h2
  have HL := hide hl
  obtain ⟨aa, ca, rfl, _, hma, _⟩ := h1
  obtain ⟨ab, cb, rfl, _, hmb, _⟩ := h2
  clear hl
  go_enter Try.func9, Try.ntmps9
  go_wp2_with fail
  refine (pairs_no _ _ 31 #[] xs ys _ H1.out H2.out HL.out).mono ?_
  rintro e w1 ⟨rfl, hb⟩
  have HB := hide hb
  clear hb
  go_wp2
  go_ret2
  exact ⟨rfl, HB.out⟩

set_option maxRecDepth 100000 in
set_option maxHeartbeats 2000000 in
theorem rsub_no (va vb : Value) (xs ys : List Int) (w : World) (h1 : Ints w va xs) (h2 : Ints w vb ys) (hl : xs.length ≠ ys.length) :
    Calls Try.prog 10 #[va, vb] w fun e w' => e = .returned (.tuple #[.slice none 0 0, .int .i64 5]) ∧ Below w.heap.size w w' := by
  have H1 := hide h1
  have H2 := hide h2
  have HL := hide hl
  obtain ⟨aa, ca, rfl, _, hma, _⟩ := h1
  obtain ⟨ab, cb, rfl, _, hmb, _⟩ := h2
  clear hl
  go_enter Try.func10, Try.ntmps10
  go_wp2_with fail
  refine (pairs_no _ _ 32 #[] xs ys _ H1.out H2.out HL.out).mono ?_
  rintro e w1 ⟨rfl, hb⟩
  have HB := hide hb
  clear hb
  go_wp2
  go_ret2
  exact ⟨rfl, HB.out⟩

set_option maxRecDepth 100000 in
set_option maxHeartbeats 2000000 in
theorem rcombine_no (vc va vd vb : Value) (xs ys : List Int) (c d : Int) (w : World) (ic : IntAt w vc c) (h1 : Ints w va xs) (id' : IntAt w vd d) (h2 : Ints w vb ys) (hl : xs.length ≠ ys.length) :
    Calls Try.prog 11 #[vc, va, vd, vb] w fun e w' => e = .returned (.tuple #[.slice none 0 0, .int .i64 5]) ∧ Below w.heap.size w w' := by
  have H1 := hide h1
  have H2 := hide h2
  have HL := hide hl
  obtain ⟨aa, ca, rfl, _, hma, _⟩ := h1
  obtain ⟨ab, cb, rfl, _, hmb, _⟩ := h2
  obtain ⟨sc, mc, lc, cc, rfl, ic⟩ := ic.cells
  obtain ⟨sd, md, ld, cd, rfl, id'⟩ := id'.cells
  have HE := hide (boxes2 w (.bool sc) (.slice mc lc cc) (.bool sd) (.slice md ld cd))
  have HB := hide HE.out.2.2
  have hmk := mkf
  clear hl ic id' HE
  go_enter Try.func11, Try.ntmps11
  go_wp2_with fail
  generalize (w.alloc (.cells #[.bool sc, .slice mc lc cc] 36)).alloc (.cells #[.bool sd, .slice md ld cd] 36) = w0 at *
  refine (pairs_no _ _ 33 _ xs ys _ (H1.out.below HB.out) (H2.out.below HB.out) HL.out).mono ?_
  rintro e w1 ⟨rfl, hb⟩
  replace HB := hide (HB.out.trans (hb.mono HB.out.size))
  clear hb
  go_wp2
  go_ret2
  exact ⟨rfl, HB.out⟩

set_option maxRecDepth 100000 in
set_option maxHeartbeats 2000000 in
theorem rdot_no (va vb : Value) (xs ys : List Int) (w : World) (h1 : Ints w va xs) (h2 : Ints w vb ys) (hl : xs.length ≠ ys.length) :
    Calls Try.prog 12 #[va, vb] w fun e w' => ∃ v, e = .returned (.tuple #[v, .int .i64 5]) ∧ IntAt w' v 0 ∧ Below w.heap.size w w' := by
  have H1 := hide h1
  have H2 := hide h2
  have HL := hide hl
  obtain ⟨aa, ca, rfl, _, hma, _⟩ := h1
  obtain ⟨ab, cb, rfl, _, hmb, _⟩ := h2
  have HP := hide (Box.new w (.bool false) (.slice none 0 0))
  have HB := hide (below_alloc w (.cells #[.bool false, .slice none 0 0] 36))
  clear hl
  go_enter Try.func12, Try.ntmps12
  go_wp2_with fail
  refine (pairs_no _ _ 34 #[] xs ys _ (H1.out.below HB.out) (H2.out.below HB.out) HL.out).mono ?_
  rintro e w1 ⟨rfl, hb⟩
  replace HP := hide (HP.out.step hb)
  replace HB := hide (HB.out.trans (hb.mono HB.out.size))
  clear hb
  go_wp2_with fail
  refine (isum_any _ [] _ (Ints.nil _) (fun k hk => ?_) (fun k hk => ?_)).mono ?_
  · have : k = 0 := by simpa using hk
    subst this
    exact SzI.len (SzI.zero) (by decide)
  · exact absurd hk (by simp)
  rintro e w2 ⟨v, rfl, n, hb⟩
  obtain ⟨s, m, l, c, rfl, n⟩ := n.cells
  have IV : Hid (IntAt w2 (.agg #[.bool s, .slice m l c]) 0) := hide n
  replace HP := hide (HP.out.step hb)
  replace HB := hide (HB.out.trans (hb.mono HB.out.size))
  clear hb n
  have c0 := HP.out.cell0
  have c1 := HP.out.cell1
  have f0 := HP.out.free 0
  have f1 := HP.out.free 1
  go_wp2
  refine ret_one rfl w.heap.size _ _ rfl (HP.out.put _ _) rfl ?_
  exact ⟨_, rfl, IV.out.keep (HP.out.keeps (by simp) (by simp) _ _), below_put HB.out (Nat.le_refl _) _ _⟩
end Go.Proofs.Ytngdnekbajnomaa
