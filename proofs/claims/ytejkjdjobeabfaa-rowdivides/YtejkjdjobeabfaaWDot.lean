/- row.Dot, row.Content. -/
import Derived.Test.YtejkjdjobeabfaaWReck
import Derived.Test.YtejkjdjobeabfaaIDiv
import Derived.Test.YtejkjdjobeabfaaWMake
namespace Go.Proofs.Ytejkjdjobeabfaa
open Go.RowKit

set_option maxRecDepth 100000 in
set_option maxHeartbeats 4000000 in
theorem scale1_any (i : Nat) (ga gc : Nat) (va : Value) (xs : List Int) (z : Int) (sc : Bool) (mc : Option Addr) (lc cc k : Nat) (w : World) (hi : i < xs.length)
    (ha : CellAt w ⟨ga, 0, none⟩ va) (h1 : Ints w va xs) (hc : Box w gc (.bool sc) (.slice mc lc cc)) (h2 : IntAt w (.agg #[.bool sc, .slice mc lc cc]) z) (s1 : SzL k xs) (s2 : SzI k z) (hk : k ≤ 1000000000) :
    Calls Try.prog 47 #[.int .i64 i, .pointer (some ⟨ga, 0, none⟩), .pointer (some ⟨gc, 0, none⟩)] w fun e w' => ∃ v, e = .returned v ∧ IntAt w' v (xs.getD i 0 * z) ∧ Below w.heap.size w w' := by
  obtain ⟨aa, ca, rfl, _, hma, _⟩ := id h1
  obtain ⟨b1, o1, rfl, s, m, l, c, k1, k2, k3⟩ := h1.at hi
  have HP := hide (Box.new w (.bool false) (.slice none 0 0))
  have HB := hide (below_alloc w (.cells #[.bool false, .slice none 0 0] 36))
  have KA := hide (ha.step HB.out)
  have PC := hide (hc.step HB.out)
  have K1 := hide (k1.step HB.out)
  have K2 := hide (k2.step HB.out)
  have I1 := hide (k3.below HB.out)
  have I2 := hide (h2.below HB.out)
  have L1 := hide (SzI.len (s1 i) hk)
  have L2 := hide (SzI.len s2 hk)
  unfold maxLen at hma
  clear ha hc h1 h2 k1 k2 k3 s1 s2 hk
  generalize xs.getD i 0 = x at *
  go_enter Try.func47, Try.ntmps47
  go_wp2_with fail
  generalize w.alloc (.cells #[.bool false, .slice none 0 0] 36) = w0 at *
  refine wp_calm (fun w' => Below w.heap.size w w' ∧ Box w' w.heap.size (.bool false) (.slice none 0 0) ∧ CellAt w' ⟨ga, 0, none⟩ (.slice (some ⟨b1, o1, none⟩) xs.length ca) ∧ Box w' gc (.bool sc) (.slice mc lc cc) ∧ CellAt w' ⟨b1, o1 + i * 2, none⟩ (.bool s) ∧ CellAt w' ⟨b1, o1 + i * 2 + 1, none⟩ (.slice m l c) ∧ IntAt w' (.agg #[.bool s, .slice m l c]) x ∧ IntAt w' (.agg #[.bool sc, .slice mc lc cc]) z) (fun j => j != 6) 7 #[false, false, false, false, false, false, false] (by kernel_rfl) rfl rfl ?_
  have HF := hide (And.intro (HB.out.drew) (And.intro (HP.out.drew) (And.intro (KA.out.drew) (And.intro (PC.out.drew) (And.intro (K1.out.drew) (And.intro (K2.out.drew) (And.intro (I1.out.drew) (I2.out.drew))))))))
  generalize w0.drew = w0d at *
  refine Calm.take (i := 0) (v := ?_) (a' := ?_) (l' := #[true, false, false, false, false, false, false]) (d := some 5) rfl (by kernel_rfl) (by kernel_rfl) (by kernel_rfl) (by kernel_rfl) (fun _ _ _ h => h) HF.out rfl ?_ rfl rfl ?_ ?_
  rotate_left
  · intro w' hF; have f10 := hF.2.1.cell0; have f11 := hF.2.1.cell1; have f20 := hF.2.2.1.out; have f30 := hF.2.2.2.1.cell0; have f31 := hF.2.2.2.1.cell1; have f40 := hF.2.2.2.2.1.out; have f50 := hF.2.2.2.2.2.1.out; clear hF; go_simp; try rfl
  rotate_left
  · simp only [Act.put]; exact rfl
  refine Calm.take (i := 1) (v := ?_) (a' := ?_) (l' := #[true, true, false, false, false, false, false]) (d := some 6) rfl (by kernel_rfl) (by kernel_rfl) (by kernel_rfl) (by kernel_rfl) (fun _ _ _ h => h) HF.out rfl ?_ rfl rfl ?_ ?_
  rotate_left
  · intro w' hF; clear hF; go_simp; try rfl
  rotate_left
  · simp only [Act.put]; exact rfl
  refine Calm.take (i := 2) (v := ?_) (a' := ?_) (l' := #[true, true, true, false, false, false, false]) (d := some 7) rfl (by kernel_rfl) (by kernel_rfl) (by kernel_rfl) (by kernel_rfl) (fun _ _ _ h => h) HF.out rfl ?_ rfl rfl ?_ ?_
  rotate_left
  · intro w' hF; clear hF; go_simp; try rfl
  rotate_left
  · simp only [Act.put]; exact rfl
  refine Calm.take (i := 3) (v := ?_) (a' := ?_) (l' := #[true, true, true, true, false, false, false]) (d := some 8) rfl (by kernel_rfl) (by kernel_rfl) (by kernel_rfl) (by kernel_rfl) (fun _ _ _ h => h) HF.out rfl ?_ rfl rfl ?_ ?_
  rotate_left
  · intro w' hF; have f10 := hF.2.1.cell0; have f11 := hF.2.1.cell1; have f20 := hF.2.2.1.out; have f30 := hF.2.2.2.1.cell0; have f31 := hF.2.2.2.1.cell1; have f40 := hF.2.2.2.2.1.out; have f50 := hF.2.2.2.2.2.1.out; clear hF; go_simp; try rfl
  rotate_left
  · simp only [Act.put]; exact rfl
  refine Calm.take (i := 4) (v := ?_) (a' := ?_) (l' := #[true, true, true, true, true, false, false]) (d := some 9) rfl (by kernel_rfl) (by kernel_rfl) (by kernel_rfl) (by kernel_rfl) (fun _ _ _ h => h) HF.out rfl ?_ rfl rfl ?_ ?_
  rotate_left
  · intro w' hF; have f10 := hF.2.1.cell0; have f11 := hF.2.1.cell1; have f20 := hF.2.2.1.out; have f30 := hF.2.2.2.1.cell0; have f31 := hF.2.2.2.1.cell1; have f40 := hF.2.2.2.2.1.out; have f50 := hF.2.2.2.2.2.1.out; clear hF; go_simp; try rfl
  rotate_left
  · simp only [Act.put]; exact rfl
  refine Calm.one (i := 5) (l' := #[true, true, true, true, true, true, false]) (by kernel_rfl) rfl rfl rfl fun K hK => ?_
  go_simp
  refine (imul_any _ _ x z _ HF.out.2.2.2.2.2.2.1 HF.out.2.2.2.2.2.2.2 L1.out L2.out).mono ?_
  rintro e w1 ⟨v, rfl, n, hb⟩
  obtain ⟨sr, mr, lr, cr, rfl, n⟩ := n.cells
  have HF' := hide (And.intro (HF.out.1.trans ((hb).mono HF.out.1.size)) (And.intro (HF.out.2.1.step (hb)) (And.intro (HF.out.2.2.1.step (hb)) (And.intro (HF.out.2.2.2.1.step (hb)) (And.intro (HF.out.2.2.2.2.1.step (hb)) (And.intro (HF.out.2.2.2.2.2.1.step (hb)) (And.intro (HF.out.2.2.2.2.2.2.1.below (hb)) (HF.out.2.2.2.2.2.2.2.below (hb)))))))))
  have IV := hide (n)
  refine hK _ _ (fun _ => HF'.out) ?_
  clear hK K HF hb n
  have HF := hide HF'.out
  clear HF'
  refine Calm.one (i := 6) (l' := #[true, true, true, true, true, true, true]) (by kernel_rfl) rfl rfl rfl fun K hK => ?_
  have hc0 := HF.out.2.1.cell0
  have hc1 := HF.out.2.1.cell1
  have hf0 := HF.out.2.1.free 0
  have hf1 := HF.out.2.1.free 1
  go_simp
  refine hK _ _ (fun h => absurd h (by decide)) ?_
  clear hK K
  refine Calm.done (by kernel_rfl) ?_
  clear hc0 hc1 hf0 hf1
  go_wp2
  refine ret_int rfl w.heap.size _ _ _ _ rfl (HF.out.2.1.put _ _) rfl ?_
  exact ⟨_, rfl, IV.out.keep (HF.out.2.1.keeps (by simp) (by simp) _ _), below_put HF.out.1 (Nat.le_refl _) _ _⟩

set_option maxRecDepth 100000 in
set_option maxHeartbeats 2000000 in
theorem rscale_any (va vc : Value) (xs : List Int) (z : Int) (k : Nat) (w : World) (h1 : Ints w va xs) (h2 : IntAt w vc z) (hm : xs.length ≤ 4000000000) (s1 : SzL k xs) (s2 : SzI k z) (hk : k ≤ 1000000000) :
    Calls Try.prog 15 #[va, vc] w fun e w' => ∃ b, e = .returned (.slice (some ⟨b, 0, none⟩) xs.length xs.length) ∧ w.heap.size ≤ b ∧ IRow w' b ((List.range xs.length).map fun i => xs.getD i 0 * z) ∧ Below w.heap.size w w' := by
  have H1 := hide h1
  have S1 := hide s1
  have S2 := hide s2
  obtain ⟨aa, ca, rfl, _, hma, _⟩ := h1
  obtain ⟨sc, mc, lc, cc, rfl, h2⟩ := h2.cells
  have WA := hide ((one_new w (.slice aa xs.length ca) 30).step (below_alloc _ (.cells #[.bool sc, .slice mc lc cc] 36)))
  have PC := hide (Box.new (w.alloc (.cells #[.slice aa xs.length ca] 30)) (.bool sc) (.slice mc lc cc))
  simp only [World.size_alloc] at PC
  have HB := hide ((below_alloc w (.cells #[.slice aa xs.length ca] 30)).trans ((below_alloc (w.alloc (.cells #[.slice aa xs.length ca] 30)) (.cells #[.bool sc, .slice mc lc cc] 36)).mono (by simp only [World.size_alloc]; omega)))
  have IC := hide (h2.below HB.out)
  have hmk := mkf
  unfold maxLen at hma
  clear s1 s2 h2
  go_enter Try.func15, Try.ntmps15
  go_wp2_with fail
  generalize (w.alloc (.cells #[.slice aa xs.length ca] 30)).alloc (.cells #[.bool sc, .slice mc lc cc] 36) = w0 at *
  refine (each_any xs.length 47 #[.pointer (some ⟨w.heap.size, 0, none⟩), .pointer (some ⟨w.heap.size + 1, 0, none⟩)] (fun i => xs.getD i 0 * z) _ hm (enters_of Try.func47 (by kernel_rfl) rfl) fun i w' hi hb => scale1_any i w.heap.size (w.heap.size + 1) _ xs z sc mc lc cc k w' hi (WA.out.step hb) ((H1.out.below HB.out).below hb) (PC.out.step hb) (IC.out.below hb) S1.out S2.out hk).mono ?_
  rintro e w1 ⟨rfl, hr, hb⟩
  have HR := hide hr
  have HS := hide HB.out.size
  replace HB := hide (HB.out.trans (hb.mono HB.out.size))
  clear hr hb
  go_wp2
  go_ret
  exact ⟨_, rfl, HS.out, HR.out, HB.out⟩

set_option maxRecDepth 100000 in
set_option maxHeartbeats 4000000 in
theorem combine1_any (gc gd : Nat) (v1 v2 : Value) (x y c d : Int) (sc sd : Bool) (mc md : Option Addr) (lc cc ld cd k : Nat) (w : World) (h1 : IntAt w v1 x) (h2 : IntAt w v2 y)
    (hc : Box w gc (.bool sc) (.slice mc lc cc)) (hd : Box w gd (.bool sd) (.slice md ld cd)) (ic : IntAt w (.agg #[.bool sc, .slice mc lc cc]) c) (id' : IntAt w (.agg #[.bool sd, .slice md ld cd]) d) (s1 : SzI k x) (s2 : SzI k y) (s3 : SzI k c) (s4 : SzI k d) (hk : k ≤ 100000000) :
    Calls Try.prog 41 #[v1, v2, .pointer (some ⟨gc, 0, none⟩), .pointer (some ⟨gd, 0, none⟩)] w fun e w' => ∃ v, e = .returned v ∧ IntAt w' v (c * x + d * y) ∧ Below w.heap.size w w' := by
  obtain ⟨sx, mx, lx, cx, rfl, i1⟩ := h1.cells
  obtain ⟨sy, my, ly, cy, rfl, i2⟩ := h2.cells
  have B1 := hide (below_alloc w (.cells #[.bool sx, .slice mx lx cx] 36))
  have B2 := hide (below_alloc (w.alloc (.cells #[.bool sx, .slice mx lx cx] 36)) (.cells #[.bool sy, .slice my ly cy] 36))
  have B3 := hide (below_alloc ((w.alloc (.cells #[.bool sx, .slice mx lx cx] 36)).alloc (.cells #[.bool sy, .slice my ly cy] 36)) (.cells #[.bool false, .slice none 0 0] 36))
  have HB := hide (B1.out.trans ((B2.out.trans (B3.out.mono (by simp only [World.size_alloc]; omega))).mono (by simp only [World.size_alloc]; omega)))
  have PX := hide (((Box.new w (.bool sx) (.slice mx lx cx)).step B2.out).step B3.out)
  have PY := hide ((Box.new (w.alloc (.cells #[.bool sx, .slice mx lx cx] 36)) (.bool sy) (.slice my ly cy)).step B3.out)
  have HP := hide (Box.new ((w.alloc (.cells #[.bool sx, .slice mx lx cx] 36)).alloc (.cells #[.bool sy, .slice my ly cy] 36)) (.bool false) (.slice none 0 0))
  simp only [World.size_alloc] at PY HP
  have PC := hide (hc.step HB.out)
  have PD := hide (hd.step HB.out)
  have IX := hide (i1.below HB.out)
  have IY := hide (i2.below HB.out)
  have IC := hide (ic.below HB.out)
  have ID := hide (id'.below HB.out)
  have LX := hide (And.intro (SzI.len s1 (by omega)) (And.intro (SzI.len s2 (by omega)) (And.intro (SzI.len s3 (by omega)) (And.intro (SzI.len s4 (by omega)) (And.intro (SzI.len (SzI.mul s3 s1) (by omega)) (SzI.len (SzI.mul s4 s2) (by omega)))))))
  clear h1 h2 i1 i2 hc hd ic id' s1 s2 s3 s4 hk B1 B2 B3
  go_enter Try.func41, Try.ntmps41
  go_wp2_with fail
  generalize ((w.alloc (.cells #[.bool sx, .slice mx lx cx] 36)).alloc (.cells #[.bool sy, .slice my ly cy] 36)).alloc (.cells #[.bool false, .slice none 0 0] 36) = w0 at *
  refine wp_calm (fun w' => Below w.heap.size w w' ∧ Box w' w.heap.size (.bool sx) (.slice mx lx cx) ∧ Box w' (w.heap.size + 1) (.bool sy) (.slice my ly cy) ∧ Box w' (w.heap.size + 1 + 1) (.bool false) (.slice none 0 0) ∧ Box w' gc (.bool sc) (.slice mc lc cc) ∧ Box w' gd (.bool sd) (.slice md ld cd) ∧ IntAt w' (.agg #[.bool sx, .slice mx lx cx]) x ∧ IntAt w' (.agg #[.bool sy, .slice my ly cy]) y ∧ IntAt w' (.agg #[.bool sc, .slice mc lc cc]) c ∧ IntAt w' (.agg #[.bool sd, .slice md ld cd]) d) (fun j => j != 7) 8 #[false, false, false, false, false, false, false, false] (by kernel_rfl) rfl rfl ?_
  have HF := hide (And.intro (HB.out.drew) (And.intro (PX.out.drew) (And.intro (PY.out.drew) (And.intro (HP.out.drew) (And.intro (PC.out.drew) (And.intro (PD.out.drew) (And.intro (IX.out.drew) (And.intro (IY.out.drew) (And.intro (IC.out.drew) (ID.out.drew))))))))))
  generalize w0.drew = w0d at *
  refine Calm.take (i := 0) (v := ?_) (a' := ?_) (l' := #[true, false, false, false, false, false, false, false]) (d := some 7) rfl (by kernel_rfl) (by kernel_rfl) (by kernel_rfl) (by kernel_rfl) (fun _ _ _ h => h) HF.out rfl ?_ rfl rfl ?_ ?_
  rotate_left
  · intro w' hF; have f10 := hF.2.1.cell0; have f11 := hF.2.1.cell1; have f20 := hF.2.2.1.cell0; have f21 := hF.2.2.1.cell1; have f30 := hF.2.2.2.1.cell0; have f31 := hF.2.2.2.1.cell1; have f40 := hF.2.2.2.2.1.cell0; have f41 := hF.2.2.2.2.1.cell1; have f50 := hF.2.2.2.2.2.1.cell0; have f51 := hF.2.2.2.2.2.1.cell1; clear hF; go_simp; try rfl
  rotate_left
  · simp only [Act.put]; exact rfl
  refine Calm.take (i := 1) (v := ?_) (a' := ?_) (l' := #[true, true, false, false, false, false, false, false]) (d := some 8) rfl (by kernel_rfl) (by kernel_rfl) (by kernel_rfl) (by kernel_rfl) (fun _ _ _ h => h) HF.out rfl ?_ rfl rfl ?_ ?_
  rotate_left
  · intro w' hF; have f10 := hF.2.1.cell0; have f11 := hF.2.1.cell1; have f20 := hF.2.2.1.cell0; have f21 := hF.2.2.1.cell1; have f30 := hF.2.2.2.1.cell0; have f31 := hF.2.2.2.1.cell1; have f40 := hF.2.2.2.2.1.cell0; have f41 := hF.2.2.2.2.1.cell1; have f50 := hF.2.2.2.2.2.1.cell0; have f51 := hF.2.2.2.2.2.1.cell1; clear hF; go_simp; try rfl
  rotate_left
  · simp only [Act.put]; exact rfl
  refine Calm.take (i := 3) (v := ?_) (a' := ?_) (l' := #[true, true, false, true, false, false, false, false]) (d := some 10) rfl (by kernel_rfl) (by kernel_rfl) (by kernel_rfl) (by kernel_rfl) (fun _ _ _ h => h) HF.out rfl ?_ rfl rfl ?_ ?_
  rotate_left
  · intro w' hF; have f10 := hF.2.1.cell0; have f11 := hF.2.1.cell1; have f20 := hF.2.2.1.cell0; have f21 := hF.2.2.1.cell1; have f30 := hF.2.2.2.1.cell0; have f31 := hF.2.2.2.1.cell1; have f40 := hF.2.2.2.2.1.cell0; have f41 := hF.2.2.2.2.1.cell1; have f50 := hF.2.2.2.2.2.1.cell0; have f51 := hF.2.2.2.2.2.1.cell1; clear hF; go_simp; try rfl
  rotate_left
  · simp only [Act.put]; exact rfl
  refine Calm.take (i := 4) (v := ?_) (a' := ?_) (l' := #[true, true, false, true, true, false, false, false]) (d := some 11) rfl (by kernel_rfl) (by kernel_rfl) (by kernel_rfl) (by kernel_rfl) (fun _ _ _ h => h) HF.out rfl ?_ rfl rfl ?_ ?_
  rotate_left
  · intro w' hF; have f10 := hF.2.1.cell0; have f11 := hF.2.1.cell1; have f20 := hF.2.2.1.cell0; have f21 := hF.2.2.1.cell1; have f30 := hF.2.2.2.1.cell0; have f31 := hF.2.2.2.1.cell1; have f40 := hF.2.2.2.2.1.cell0; have f41 := hF.2.2.2.2.1.cell1; have f50 := hF.2.2.2.2.2.1.cell0; have f51 := hF.2.2.2.2.2.1.cell1; clear hF; go_simp; try rfl
  rotate_left
  · simp only [Act.put]; exact rfl
  refine Calm.one (i := 2) (l' := #[true, true, true, true, true, false, false, false]) (by kernel_rfl) rfl rfl rfl fun K hK => ?_
  go_simp
  refine (imul_any _ _ c x _ HF.out.2.2.2.2.2.2.2.2.1 HF.out.2.2.2.2.2.2.1 LX.out.2.2.1 LX.out.1).mono ?_
  rintro e y1 ⟨v, rfl, n, hb⟩
  have HF' := hide (And.intro (HF.out.1.trans ((hb).mono HF.out.1.size)) (And.intro (HF.out.2.1.step (hb)) (And.intro (HF.out.2.2.1.step (hb)) (And.intro (HF.out.2.2.2.1.step (hb)) (And.intro (HF.out.2.2.2.2.1.step (hb)) (And.intro (HF.out.2.2.2.2.2.1.step (hb)) (And.intro (HF.out.2.2.2.2.2.2.1.below (hb)) (And.intro (HF.out.2.2.2.2.2.2.2.1.below (hb)) (And.intro (HF.out.2.2.2.2.2.2.2.2.1.below (hb)) (HF.out.2.2.2.2.2.2.2.2.2.below (hb)))))))))))
  have T1 := hide (n)
  refine hK _ _ (fun _ => HF'.out) ?_
  clear hK K HF hb n
  have HF := hide HF'.out
  clear HF'
  refine Calm.one (i := 5) (l' := #[true, true, true, true, true, true, false, false]) (by kernel_rfl) rfl rfl rfl fun K hK => ?_
  go_simp
  refine (imul_any _ _ d y _ HF.out.2.2.2.2.2.2.2.2.2 HF.out.2.2.2.2.2.2.2.1 LX.out.2.2.2.1 LX.out.2.1).mono ?_
  rintro e y2 ⟨v, rfl, n, hb⟩
  replace T1 := hide (T1.out.below (hb))
  have HF' := hide (And.intro (HF.out.1.trans ((hb).mono HF.out.1.size)) (And.intro (HF.out.2.1.step (hb)) (And.intro (HF.out.2.2.1.step (hb)) (And.intro (HF.out.2.2.2.1.step (hb)) (And.intro (HF.out.2.2.2.2.1.step (hb)) (And.intro (HF.out.2.2.2.2.2.1.step (hb)) (And.intro (HF.out.2.2.2.2.2.2.1.below (hb)) (And.intro (HF.out.2.2.2.2.2.2.2.1.below (hb)) (And.intro (HF.out.2.2.2.2.2.2.2.2.1.below (hb)) (HF.out.2.2.2.2.2.2.2.2.2.below (hb)))))))))))
  have T2 := hide (n)
  refine hK _ _ (fun _ => HF'.out) ?_
  clear hK K HF hb n
  have HF := hide HF'.out
  clear HF'
  refine Calm.one (i := 6) (l' := #[true, true, true, true, true, true, true, false]) (by kernel_rfl) rfl rfl rfl fun K hK => ?_
  go_simp
  refine (iadd_any _ _ (c * x) (d * y) _ T1.out T2.out LX.out.2.2.2.2.1 LX.out.2.2.2.2.2).mono ?_
  rintro e y3 ⟨v, rfl, n, hb⟩
  obtain ⟨sr, mr, lr, cr, rfl, n⟩ := n.cells
  clear T1
  clear T2
  have HF' := hide (And.intro (HF.out.1.trans ((hb).mono HF.out.1.size)) (And.intro (HF.out.2.1.step (hb)) (And.intro (HF.out.2.2.1.step (hb)) (And.intro (HF.out.2.2.2.1.step (hb)) (And.intro (HF.out.2.2.2.2.1.step (hb)) (And.intro (HF.out.2.2.2.2.2.1.step (hb)) (And.intro (HF.out.2.2.2.2.2.2.1.below (hb)) (And.intro (HF.out.2.2.2.2.2.2.2.1.below (hb)) (And.intro (HF.out.2.2.2.2.2.2.2.2.1.below (hb)) (HF.out.2.2.2.2.2.2.2.2.2.below (hb)))))))))))
  have IV := hide (n)
  refine hK _ _ (fun _ => HF'.out) ?_
  clear hK K HF hb n
  have HF := hide HF'.out
  clear HF'
  refine Calm.one (i := 7) (l' := #[true, true, true, true, true, true, true, true]) (by kernel_rfl) rfl rfl rfl fun K hK => ?_
  have hc0 := HF.out.2.2.2.1.cell0
  have hc1 := HF.out.2.2.2.1.cell1
  have hf0 := HF.out.2.2.2.1.free 0
  have hf1 := HF.out.2.2.2.1.free 1
  go_simp
  refine hK _ _ (fun h => absurd h (by decide)) ?_
  clear hK K
  refine Calm.done (by kernel_rfl) ?_
  clear hc0 hc1 hf0 hf1
  go_wp2
  refine ret_int rfl (w.heap.size + 1 + 1) _ _ _ _ rfl (HF.out.2.2.2.1.put _ _) rfl ?_
  exact ⟨_, rfl, IV.out.keep (HF.out.2.2.2.1.keeps (by simp) (by simp) _ _), below_put HF.out.1 (by omega) _ _⟩

set_option maxRecDepth 100000 in
set_option maxHeartbeats 2000000 in
theorem rcombine_any (vc va vd vb : Value) (xs ys : List Int) (c d : Int) (k : Nat) (w : World) (ic : IntAt w vc c) (h1 : Ints w va xs) (id' : IntAt w vd d) (h2 : Ints w vb ys) (hl : ys.length = xs.length) (hm : xs.length ≤ 4000000000) (s1 : SzL k xs) (s2 : SzL k ys) (s3 : SzI k c) (s4 : SzI k d) (hk : k ≤ 100000000) :
    Calls Try.prog 12 #[vc, va, vd, vb] w fun e w' => ∃ b, e = .returned (.tuple #[.slice (some ⟨b, 0, none⟩) xs.length xs.length, .int .i64 0]) ∧ w.heap.size ≤ b ∧ IRow w' b ((List.range xs.length).map fun i => c * xs.getD i 0 + d * ys.getD i 0) ∧ Below w.heap.size w w' := by
  have H1 := hide h1
  have H2 := hide h2
  have SS := hide (And.intro s1 (And.intro s2 (And.intro s3 s4)))
  obtain ⟨aa, ca, rfl, _, hma, _⟩ := h1
  obtain ⟨ab, cb, rfl, _, hmb, _⟩ := h2
  obtain ⟨sc, mc, lc, cc, rfl, ic⟩ := ic.cells
  obtain ⟨sd, md, ld, cd, rfl, id'⟩ := id'.cells
  have HE := hide (boxes2 w (.bool sc) (.slice mc lc cc) (.bool sd) (.slice md ld cd))
  have IC := hide (ic.below HE.out.2.2)
  have ID := hide (id'.below HE.out.2.2)
  have HB := hide HE.out.2.2
  have PC := hide HE.out.1
  have PD := hide HE.out.2.1
  have hmk := mkf
  generalize hyl : ys.length = ny at *
  subst hl
  have HL := hide hyl
  clear hyl s1 s2 s3 s4 ic id' HE
  go_enter Try.func12, Try.ntmps12
  go_wp2_with fail
  generalize (w.alloc (.cells #[.bool sc, .slice mc lc cc] 36)).alloc (.cells #[.bool sd, .slice md ld cd] 36) = w0 at *
  refine (pairs_any 41 #[.pointer (some ⟨w.heap.size, 0, none⟩), .pointer (some ⟨w.heap.size + 1, 0, none⟩)] (enters_of Try.func41 (by kernel_rfl) rfl) _ _ xs ys (fun i => c * xs.getD i 0 + d * ys.getD i 0) _ (H1.out.below HB.out) (H2.out.below HB.out) HL.out hm fun i w' v1 v2 _ hb i1 i2 => combine1_any w.heap.size (w.heap.size + 1) v1 v2 (xs.getD i 0) (ys.getD i 0) c d sc sd mc md lc cc ld cd k w' i1 i2 (PC.out.step hb) (PD.out.step hb) (IC.out.below hb) (ID.out.below hb) (SS.out.1 i) (SS.out.2.1 i) SS.out.2.2.1 SS.out.2.2.2 hk).mono ?_
  rintro e w1 ⟨b, rfl, hsb, hr, hb⟩
  have HR := hide hr
  have HS := hide (Nat.le_trans HB.out.size hsb)
  replace HB := hide (HB.out.trans (hb.mono HB.out.size))
  clear hr hb hsb
  go_wp2
  go_ret2
  exact ⟨_, rfl, HS.out, HR.out, HB.out⟩
end Go.Proofs.Ytejkjdjobeabfaa

namespace Go.Proofs.Ytejkjdjobeabfaa
open Go.RowKit

set_option maxRecDepth 100000 in
set_option maxHeartbeats 1000000 in
theorem igcd_any (v1 v2 : Value) (x y : Int) (w : World) (h1 : IntAt w v1 x) (h2 : IntAt w v2 y) (l1 : (lim x.natAbs).length ≤ 1000000000) (l2 : (lim y.natAbs).length ≤ 1000000000) :
    Calls Try.prog 60 #[v1, v2] w fun e w' => ∃ v', e = .returned v' ∧ IntAt w' v' (Int.gcd x y : Int) ∧ Below w.heap.size w w' := by
  obtain ⟨b1, n1, a1, c1, rfl, hn1, rfl, h01⟩ := h1
  obtain ⟨b2, n2, a2, c2, rfl, hn2, rfl, h02⟩ := h2
  have HE := hide (boxes3 w (.bool b1) (.slice a1 (lim n1).length c1) (.bool b2) (.slice a2 (lim n2).length c2) (.bool false) (.slice none 0 0))
  have HN1 := hide (hn1.below HE.out.2.2.2)
  have HN2 := hide (hn2.below HE.out.2.2.2)
  rw [sg_abs] at l1 l2
  clear hn1 h01 hn2 h02
  go_enter Try.func60, Try.ntmps60
  go_wp2_with fail
  refine (gcd_any _ _ (lim n1) (lim n2) _ HN1.out HN2.out l1 l2).mono ?_
  rintro e w1 ⟨v, rfl, m1, hb1⟩
  rw [val_lim, val_lim] at m1
  have HM := hide m1
  have HX := hide (HE.out.2.2.1.step hb1)
  have HB := hide (HE.out.2.2.2.trans (hb1.mono HE.out.2.2.2.size))
  clear m1 hb1 HE
  go_wp2_with fail
  refine (made_any false (Nat.gcd n1 n2) _ _ HM.out).mono ?_
  rintro e w2 ⟨v, rfl, ⟨b', n', a', c', rfl, hn', he, h0⟩, hb2⟩
  replace HX := hide (HX.out.step hb2)
  replace HB := hide (HB.out.trans (hb2.mono HB.out.size))
  have hc0 := HX.out.cell0
  have hc1 := HX.out.cell1
  have hf0 := HX.out.free 0
  have hf1 := HX.out.free 1
  clear hb2
  go_wp2
  refine ret_int rfl (w.heap.size + 1 + 1) _ _ _ _ rfl ((HX.out.set0 _).set1 _) rfl ?_
  exact handed HX.out (by simp) (by simp) (by omega) HB.out hn' (by rw [← he]; simp [Int.gcd, sg_abs]) h0
end Go.Proofs.Ytejkjdjobeabfaa

namespace Go.Proofs.Ytejkjdjobeabfaa
open Go.RowKit

set_option maxRecDepth 100000 in
set_option maxHeartbeats 2000000 in
theorem rdot_any (va vb : Value) (xs ys : List Int) (k j : Nat) (w : World) (h1 : Ints w va xs) (h2 : Ints w vb ys) (hl : ys.length = xs.length) (hm : xs.length ≤ 4000000000) (s1 : SzL k xs) (s2 : SzL k ys) (hk : k ≤ 1000000000)
    (hacc : ∀ i, SzI j (accZ (· + ·) 0 ((List.range xs.length).map fun i => xs.getD i 0 * ys.getD i 0) i)) (hel : SzL j ((List.range xs.length).map fun i => xs.getD i 0 * ys.getD i 0)) (hj : j ≤ 1000000000) :
    Calls Try.prog 13 #[va, vb] w fun e w' => ∃ v, e = .returned (.tuple #[v, .int .i64 0]) ∧ IntAt w' v (accZ (· + ·) 0 ((List.range xs.length).map fun i => xs.getD i 0 * ys.getD i 0) xs.length) ∧ Below w.heap.size w w' := by
  have H1 := hide h1
  have H2 := hide h2
  have S1 := hide s1
  have S2 := hide s2
  have HAC := hide hacc
  have HEL := hide hel
  have HJ := hide hj
  obtain ⟨aa, ca, rfl, _, hma, _⟩ := h1
  obtain ⟨ab, cb, rfl, _, hmb, _⟩ := h2
  have HP := hide (Box.new w (.bool false) (.slice none 0 0))
  have HB := hide (below_alloc w (.cells #[.bool false, .slice none 0 0] 36))
  clear s1 s2 hacc hel hj
  generalize hyl : ys.length = ny at *
  subst hl
  have HL := hide hyl
  clear hyl
  have HLP : Hid (((List.range xs.length).map fun i => xs.getD i 0 * ys.getD i 0).length = xs.length) := hide (by simp)
  go_enter Try.func13, Try.ntmps13
  go_wp2_with fail
  refine (pairs_any 42 #[] (enters_of Try.func42 (by kernel_rfl) rfl) _ _ xs ys (fun i => xs.getD i 0 * ys.getD i 0) _ (H1.out.below HB.out) (H2.out.below HB.out) HL.out hm fun i w' v1 v2 _ _ i1 i2 => by rw [Array.append_empty]; exact imul_any v1 v2 (xs.getD i 0) (ys.getD i 0) w' i1 i2 (SzI.len (S1.out i) hk) (SzI.len (S2.out i) hk)).mono ?_
  rintro e w1 ⟨b, rfl, hsb, hr, hb⟩
  have HR := hide hr
  replace HP := hide (HP.out.step hb)
  replace HB := hide (HB.out.trans (hb.mono HB.out.size))
  clear hr hb hsb
  generalize hps : (List.range xs.length).map (fun i => xs.getD i 0 * ys.getD i 0) = ps at *
  have HPS := hide hps
  clear hps
  have HI := hide (HR.out.ints (by rw [HLP.out]; unfold maxLen; omega))
  rw [HLP.out] at HI
  go_wp2_with fail
  refine (isum_any _ ps _ HI.out (fun i _ => SzI.len (HAC.out i) HJ.out) (fun i _ => SzI.len (HEL.out i) HJ.out)).mono ?_
  rintro e w2 ⟨v, rfl, n, hb⟩
  obtain ⟨s, m, l, c, rfl, n⟩ := n.cells
  rw [HLP.out] at n
  have IV := hide n
  replace HP := hide (HP.out.step hb)
  replace HB := hide (HB.out.trans (hb.mono HB.out.size))
  clear hb n HI HR
  have c0 := HP.out.cell0
  have c1 := HP.out.cell1
  have f0 := HP.out.free 0
  have f1 := HP.out.free 1
  go_wp2
  refine ret_one rfl w.heap.size _ _ rfl (HP.out.put _ _) rfl ?_
  exact ⟨_, rfl, by rw [HPS.out]; exact IV.out.keep (HP.out.keeps (by simp) (by simp) _ _), below_put HB.out (Nat.le_refl _) _ _⟩

/-- the greatest divisor of the first k -/
def gcdTo (zs : List Int) : Nat → Nat
  | 0 => 0
  | k + 1 => Int.gcd (gcdTo zs k : Int) (zs.getD k 0)
theorem gcdTo_one {zs : List Int} {k : Nat} (h : gcdTo zs k = 1) : ∀ j, gcdTo zs (k + j) = 1
  | 0 => h
  | j + 1 => by show Int.gcd (gcdTo zs (k + j) : Int) _ = 1; rw [gcdTo_one h j]; simp
theorem gcd_sz4 {k : Nat} {x y : Int} (h1 : SzI k x) (h2 : SzI k y) : SzI k (Int.gcd x y : Int) := by
  by_cases hy : y = 0
  · subst hy; rw [Int.gcd_zero_right]; unfold SzI at *; rw [Int.natAbs_natCast]; exact h1
  · refine Nat.lt_of_le_of_lt ?_ h2
    rw [Int.natAbs_natCast]
    exact Nat.le_of_dvd (by omega) (Int.natAbs_dvd_natAbs.2 (Int.gcd_dvd_right x y) |> fun h => by simpa using h)
theorem gcdTo_sz {k : Nat} {zs : List Int} (h : SzL k zs) : ∀ i, SzI k (gcdTo zs i : Int)
  | 0 => by unfold SzI; exact Nat.pow_pos BB_pos
  | i + 1 => gcd_sz4 (gcdTo_sz h i) (h i)

set_option maxRecDepth 100000 in
set_option maxHeartbeats 8000000 in
theorem content_any (va : Value) (zs : List Int) (K : Nat) (w : World) (h : Ints w va zs) (hs : SzL K zs) (hK : K ≤ 1000000000) :
    Calls Try.prog 30 #[va] w fun e w' => ∃ v, e = .returned v ∧ IntAt w' v (gcdTo zs zs.length : Int) ∧ Below w.heap.size w w' := by
  have HI := hide h
  have LZ : Hid (∀ i, (lim (zs.getD i 0).natAbs).length ≤ 1000000000) := hide (fun i => SzI.len (hs i) hK)
  have LG : Hid (∀ i, (lim (gcdTo zs i : Int).natAbs).length ≤ 1000000000) := hide (fun i => SzI.len (gcdTo_sz hs i) hK)
  obtain ⟨a, cap, rfl, hcap, hmx, _⟩ := h
  unfold maxLen at hmx
  have HE := hide (boxes2 w (.bool false) (.slice none 0 0) (.bool false) (.slice none 0 0))
  have P0 := hide HE.out.1
  have PW := hide HE.out.2.1
  have HB := hide HE.out.2.2
  clear HE hs hK
  go_enter Try.func30, Try.ntmps30
  go_wp2
  go_step3
  go_wp2_with fail
  generalize (w.alloc (.cells #[.bool false, .slice none 0 0] 36)).alloc (.cells #[.bool false, .slice none 0 0] 36) = w0 at *
  refine (iof_any 1 _ (by decide) (by decide)).mono ?_
  rintro e w1 ⟨v, rfl, n, hb⟩
  obtain ⟨so, mo, lo, co, rfl, n⟩ := n.cells
  have GO : Hid (w.heap.size + 1 < w1.heap.size) := hide (PW.out.step hb).lt
  replace P0 := hide ((P0.out.step hb).step (below_alloc w1 (.cells #[.bool so, .slice mo lo co] 36)))
  replace PW := hide ((PW.out.step hb).step (below_alloc w1 (.cells #[.bool so, .slice mo lo co] 36)))
  replace HB := hide ((HB.out.trans (hb.mono HB.out.size)).trans ((below_alloc w1 (.cells #[.bool so, .slice mo lo co] 36)).mono (HB.out.trans (hb.mono HB.out.size)).size))
  have PO := hide (Box.new w1 (.bool so) (.slice mo lo co))
  have IhO := hide (n.below (below_alloc w1 (.cells #[.bool so, .slice mo lo co] 36)))
  clear hb n
  go_upto_region 3 with fail
  generalize w1.alloc (.cells #[.bool so, .slice mo lo co] 36) = w2 at *
  generalize w1.heap.size = go' at *
  go_wp2
  go_step3
  go_wp2
  go_loopw [6, 10] (fun _ iv wr => ∃ k : Nat, k ≤ zs.length ∧ iv = .int .i64 k ∧ Below w.heap.size w wr ∧ Box wr w.heap.size (.bool false) (.slice none 0 0) ∧ Box wr go' (.bool so) (.slice mo lo co) ∧ IntAt wr (.agg #[.bool so, .slice mo lo co]) 1 ∧ ∃ s m n c, Box wr (w.heap.size + 1) (.bool s) (.slice m n c) ∧ IntAt wr (.agg #[.bool s, .slice m n c]) (gcdTo zs k : Int)) (fun _ iv _ => zs.length - (intOf iv).toNat)
  case atStart => exact ⟨0, Nat.zero_le _, rfl, HB.out, P0.out, PO.out, IhO.out, false, none, 0, 0, PW.out, int_nought _⟩
  case round =>
    obtain ⟨k, hk, rfl, hbel, hP, hO, hIO, sw, mw, lw, cw, hW, hI⟩ := hrel
    clear HB P0 PO IhO PW
    have HB := hide hbel
    have P0 := hide hP
    have PO := hide hO
    have IhO := hide hIO
    have PW := hide hW
    have IW := hide hI
    clear hbel hP hO hIO hW hI
    by_cases hlt : k < zs.length
    · obtain ⟨b, off, rfl, s, m, l, c, k1, k2, k3⟩ := (HI.out.below HB.out).at hlt
      have HA := hide (below_alloc wr (.cells #[.bool s, .slice m l c] 36))
      have e1 := k1.out
      have e2 := k2.out
      have IX := hide (k3.below HA.out)
      have PX := hide (Box.new wr (.bool s) (.slice m l c))
      replace HB := hide (HB.out.trans (HA.out.mono HB.out.size))
      replace P0 := hide (P0.out.step HA.out)
      replace PO := hide (PO.out.step HA.out)
      replace PW := hide (PW.out.step HA.out)
      replace IhO := hide (IhO.out.below HA.out)
      replace IW := hide (IW.out.below HA.out)
      have L1 := hide (LZ.out k)
      have HN : Hid (gcdTo zs (k + 1) = Int.gcd (gcdTo zs k : Int) (zs.getD k 0)) := hide rfl
      have L2 := hide (LG.out k)
      clear k1 k2 k3 HA
      have x0 := PX.out.cell0
      have x1 := PX.out.cell1
      have p0 := PW.out.cell0
      have p1 := PW.out.cell1
      generalize zs.getD k 0 = z at *
      go_wp2_with fail
      refine (igcd_any _ _ _ z _ IW.out IX.out L2.out L1.out).mono ?_
      rintro e w3 ⟨v, rfl, n, hb⟩
      obtain ⟨sg, mg, lg, cg, rfl, n⟩ := n.cells
      rw [← HN.out] at n
      replace HB := hide (HB.out.trans (hb.mono HB.out.size))
      replace P0 := hide (P0.out.step hb)
      replace PO := hide (PO.out.step hb)
      replace PW := hide (PW.out.step hb)
      replace IhO := hide (IhO.out.below hb)
      have IG := hide n
      clear hb n x0 x1 p0 p1 e1 e2 IX PX IW
      have p0 := PW.out.cell0
      have p1 := PW.out.cell1
      have f0 := PW.out.free 0
      have f1 := PW.out.free 1
      go_upto_region 7 with fail
      have HK := PW.out.keeps (by simp) (by simp) (.bool sg) (.slice mg lg cg)
      replace HB := hide (below_put HB.out (Nat.le_succ _) (.bool sg) (.slice mg lg cg))
      replace P0 := hide (P0.out.other (C := w.heap.size + 1) (by omega) (.bool sg) (.slice mg lg cg))
      replace PO := hide (PO.out.other (C := w.heap.size + 1) (by have := GO.out; omega) (.bool sg) (.slice mg lg cg))
      replace PW := hide (PW.out.put (.bool sg) (.slice mg lg cg))
      replace IhO := hide (IhO.out.keep HK)
      replace IG := hide (IG.out.keep HK)
      clear HK p0 p1 f0 f1
      generalize (w3.setCell ⟨w.heap.size + 1, 0, none⟩ (.bool sg)).setCell ⟨w.heap.size + 1, 1, none⟩ (.slice mg lg cg) = w4 at *
      have p0 := PW.out.cell0
      have p1 := PW.out.cell1
      have o0 := PO.out.cell0
      have o1 := PO.out.cell1
      go_wp2_with fail
      refine (icmp_any _ _ _ 1 _ IG.out IhO.out).mono ?_
      rintro e w5 ⟨rfl, hb⟩
      replace HB := hide (HB.out.trans (hb.mono HB.out.size))
      replace P0 := hide (P0.out.step hb)
      replace PO := hide (PO.out.step hb)
      replace PW := hide (PW.out.step hb)
      replace IhO := hide (IhO.out.below hb)
      replace IG := hide (IG.out.below hb)
      clear hb p0 p1 o0 o1
      by_cases h1 : gcdTo zs (k + 1) = 1
      · have SG : cmpZ (gcdTo zs (k + 1) : Int) 1 = 0 := by rw [h1]; rfl
        have HO : Hid (gcdTo zs (k + 1) = gcdTo zs zs.length) := hide (by have := gcdTo_one h1 (zs.length - (k + 1)); rw [show k + 1 + (zs.length - (k + 1)) = zs.length by omega] at this; rw [h1, this])
        rw [SG]
        clear SG h1
        have p0 := PW.out.cell0
        have p1 := PW.out.cell1
        have z0 := P0.out.cell0
        have z1 := P0.out.cell1
        have f0 := P0.out.free 0
        have f1 := P0.out.free 1
        go_wp2
        try rw [Exit.noGoto_ret]
        refine ret_int rfl w.heap.size _ _ _ _ rfl (P0.out.put _ _) rfl ?_
        exact ⟨_, rfl, by rw [← HO.out]; exact IG.out.keep (P0.out.keeps (by simp) (by simp) _ _), below_put HB.out (Nat.le_refl _) _ _⟩
      · have SG : (cmpZ (gcdTo zs (k + 1) : Int) 1 == 0) = false := by rw [beq_eq_false_iff_ne]; unfold cmpZ; split <;> (try split) <;> omega
        clear h1
        generalize cmpZ (gcdTo zs (k + 1) : Int) 1 = sz at *
        go_wp2
        go_roundw
        case rel => exact ⟨k + 1, by omega, by go_num, HB.out, P0.out, PO.out, IhO.out, sg, mg, lg, cg, PW.out, IG.out⟩
        case measure => simp [intOf]; omega
    · have e : k = zs.length := by omega
      subst e
      have p0 := PW.out.cell0
      have p1 := PW.out.cell1
      have z0 := P0.out.cell0
      have z1 := P0.out.cell1
      have f0 := P0.out.free 0
      have f1 := P0.out.free 1
      go_wp2
      try rw [Exit.noGoto_ret]
      refine ret_int rfl w.heap.size _ _ _ _ rfl (P0.out.put _ _) rfl ?_
      exact ⟨_, rfl, IW.out.keep (P0.out.keeps (by simp) (by simp) _ _), below_put HB.out (Nat.le_refl _) _ _⟩
end Go.Proofs.Ytejkjdjobeabfaa
