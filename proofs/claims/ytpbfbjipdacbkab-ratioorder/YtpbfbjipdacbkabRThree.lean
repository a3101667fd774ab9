/- swagelaw03.three: some three fractions. -/
import Derived.Test.YtpbfbjipdacbkabRAlone
import Derived.Test.YtpbfbjipdacbkabRLong
import Derived.Test.YtpbfbjipdacbkabRSame
import Derived.Deep.Cut
namespace Go.Proofs.Ytpbfbjipdacbkab
open Go.RowKit

/-- some three fractions, not too great, and a truth -/
def SomeQ3 (e : Ending) (w : World) : Prop := ∃ v1 v2 v3 x y z ok, e = .returned (.tuple #[v1, v2, v3, .bool ok]) ∧ RatAt w v1 x ∧ RatAt w v2 y ∧ RatAt w v3 z ∧ SzR 65536 x ∧ SzR 65536 y ∧ SzR 65536 z

theorem ret_three {fn : Func} {R : Ending → World → Prop} {a : Act} {w : World} {p p' p'' k : Tmp} (h : fn.results = #[.cell p 29, .cell p' 29, .cell p'' 29, .tmp k]) (g g' g'' : Nat) (x y u v x' y' u' v' x'' y'' u'' v'' : Value) (b : Bool)
    (hp : a.tmps.getD p undef = .pointer (some ⟨g, 0, none⟩)) (hp' : a.tmps.getD p' undef = .pointer (some ⟨g', 0, none⟩)) (hp'' : a.tmps.getD p'' undef = .pointer (some ⟨g'', 0, none⟩)) (hk : a.tmps.getD k undef = .bool b)
    (hg : Box4 w g x y u v) (hg' : Box4 w g' x' y' u' v') (hg'' : Box4 w g'' x'' y'' u'' v'') (hd : a.defers = []) (hR : R (.returned (.tuple #[.agg #[x, y, u, v], .agg #[x', y', u', v'], .agg #[x'', y'', u'', v''], .bool b])) w) : bodyPost Try.prog fn R .ret a w := by
  refine bodyPost_ret ?_ hd hR
  have q : a.tmps[p]?.getD undef = .pointer (some ⟨g, 0, none⟩) := by simpa using hp
  have q' : a.tmps[p']?.getD undef = .pointer (some ⟨g', 0, none⟩) := by simpa using hp'
  have q'' : a.tmps[p'']?.getD undef = .pointer (some ⟨g'', 0, none⟩) := by simpa using hp''
  have qk : a.tmps[k]?.getD undef = .bool b := by simpa using hk
  simp [results, h, q, q', q'', qk, asAddr, run_loadVar_row w g 29 29 #[x, y, u, v] (0, 0) _ hg Try.underlying29 rfl Try.infoRat, run_loadVar_row w g' 29 29 #[x', y', u', v'] (0, 0) _ hg' Try.underlying29 rfl Try.infoRat, run_loadVar_row w g'' 29 29 #[x'', y'', u'', v''] (0, 0) _ hg'' Try.underlying29 rfl Try.infoRat]

set_option maxRecDepth 100000 in
set_option maxHeartbeats 16000000 in
theorem three_any (b0 b1 b2 b3 b4 b5 : ByteArray) (w : World) (l0 : b0.size ≤ 9223372036854775807) (l1 : b1.size ≤ 9223372036854775807) (l2 : b2.size ≤ 9223372036854775807) (l3 : b3.size ≤ 9223372036854775807) (l4 : b4.size ≤ 9223372036854775807) (l5 : b5.size ≤ 9223372036854775807) :
    Calls Try.prog 9 #[.agg #[.string b0, .string b1], .agg #[.string b2, .string b3], .agg #[.string b4, .string b5]] w fun e w' => SomeQ3 e w' ∧ Below w.heap.size w w' := by
  have P0 := BoxF.new w (.string b0) (.string b1)
  replace P0 := P0.step (below_alloc _ (.cells #[.string b2, .string b3] 23))
  replace P0 := P0.step (below_alloc _ (.cells #[.string b4, .string b5] 23))
  replace P0 := P0.step (below_alloc _ (.cells #[.bool false, .slice none 0 0, .bool false, .slice none 0 0] 29))
  replace P0 := P0.step (below_alloc _ (.cells #[.bool false, .slice none 0 0, .bool false, .slice none 0 0] 29))
  replace P0 := P0.step (below_alloc _ (.cells #[.bool false, .slice none 0 0, .bool false, .slice none 0 0] 29))
  replace P0 := hide P0
  have P1 := BoxF.new (w.alloc (.cells #[.string b0, .string b1] 23)) (.string b2) (.string b3)
  simp only [World.size_alloc] at P1
  replace P1 := P1.step (below_alloc _ (.cells #[.string b4, .string b5] 23))
  replace P1 := P1.step (below_alloc _ (.cells #[.bool false, .slice none 0 0, .bool false, .slice none 0 0] 29))
  replace P1 := P1.step (below_alloc _ (.cells #[.bool false, .slice none 0 0, .bool false, .slice none 0 0] 29))
  replace P1 := P1.step (below_alloc _ (.cells #[.bool false, .slice none 0 0, .bool false, .slice none 0 0] 29))
  replace P1 := hide P1
  have P2 := BoxF.new ((w.alloc (.cells #[.string b0, .string b1] 23)).alloc (.cells #[.string b2, .string b3] 23)) (.string b4) (.string b5)
  simp only [World.size_alloc] at P2
  replace P2 := P2.step (below_alloc _ (.cells #[.bool false, .slice none 0 0, .bool false, .slice none 0 0] 29))
  replace P2 := P2.step (below_alloc _ (.cells #[.bool false, .slice none 0 0, .bool false, .slice none 0 0] 29))
  replace P2 := P2.step (below_alloc _ (.cells #[.bool false, .slice none 0 0, .bool false, .slice none 0 0] 29))
  replace P2 := hide P2
  have R0 := Box4.new (((w.alloc (.cells #[.string b0, .string b1] 23)).alloc (.cells #[.string b2, .string b3] 23)).alloc (.cells #[.string b4, .string b5] 23)) (.bool false) (.slice none 0 0) (.bool false) (.slice none 0 0)
  simp only [World.size_alloc] at R0
  replace R0 := R0.step (below_alloc _ (.cells #[.bool false, .slice none 0 0, .bool false, .slice none 0 0] 29))
  replace R0 := R0.step (below_alloc _ (.cells #[.bool false, .slice none 0 0, .bool false, .slice none 0 0] 29))
  replace R0 := hide R0
  have R1 := Box4.new ((((w.alloc (.cells #[.string b0, .string b1] 23)).alloc (.cells #[.string b2, .string b3] 23)).alloc (.cells #[.string b4, .string b5] 23)).alloc (.cells #[.bool false, .slice none 0 0, .bool false, .slice none 0 0] 29)) (.bool false) (.slice none 0 0) (.bool false) (.slice none 0 0)
  simp only [World.size_alloc] at R1
  replace R1 := R1.step (below_alloc _ (.cells #[.bool false, .slice none 0 0, .bool false, .slice none 0 0] 29))
  replace R1 := hide R1
  have R2 := Box4.new (((((w.alloc (.cells #[.string b0, .string b1] 23)).alloc (.cells #[.string b2, .string b3] 23)).alloc (.cells #[.string b4, .string b5] 23)).alloc (.cells #[.bool false, .slice none 0 0, .bool false, .slice none 0 0] 29)).alloc (.cells #[.bool false, .slice none 0 0, .bool false, .slice none 0 0] 29)) (.bool false) (.slice none 0 0) (.bool false) (.slice none 0 0)
  simp only [World.size_alloc] at R2
  replace R2 := hide R2
  have HB := below_alloc w (.cells #[.string b0, .string b1] 23)
  replace HB := HB.trans ((below_alloc _ (.cells #[.string b2, .string b3] 23)).mono (by simp only [World.size_alloc]; omega))
  replace HB := HB.trans ((below_alloc _ (.cells #[.string b4, .string b5] 23)).mono (by simp only [World.size_alloc]; omega))
  replace HB := HB.trans ((below_alloc _ (.cells #[.bool false, .slice none 0 0, .bool false, .slice none 0 0] 29)).mono (by simp only [World.size_alloc]; omega))
  replace HB := HB.trans ((below_alloc _ (.cells #[.bool false, .slice none 0 0, .bool false, .slice none 0 0] 29)).mono (by simp only [World.size_alloc]; omega))
  replace HB := HB.trans ((below_alloc _ (.cells #[.bool false, .slice none 0 0, .bool false, .slice none 0 0] 29)).mono (by simp only [World.size_alloc]; omega))
  replace HB := hide HB
  go_enter Try.func9, Try.ntmps9
  go_wp2_with fail
  generalize ((((((w.alloc (.cells #[.string b0, .string b1] 23)).alloc (.cells #[.string b2, .string b3] 23)).alloc (.cells #[.string b4, .string b5] 23)).alloc (.cells #[.bool false, .slice none 0 0, .bool false, .slice none 0 0] 29)).alloc (.cells #[.bool false, .slice none 0 0, .bool false, .slice none 0 0] 29)).alloc (.cells #[.bool false, .slice none 0 0, .bool false, .slice none 0 0] 29)) = w0 at *
  refine (alone_any b0 b1 _ l0 l1).mono ?_
  rintro e u1 ⟨⟨v, x, k0, rfl, n, hsz⟩, hb⟩
  obtain ⟨s7, m7, n7, c7, t7, o7, p7, d7, rfl, n⟩ := n.cells
  have Z0 := hide hsz
  replace P0 := hide (P0.out.step (hb))
  replace P1 := hide (P1.out.step (hb))
  replace P2 := hide (P2.out.step (hb))
  replace R0 := hide (R0.out.step (hb))
  replace R1 := hide (R1.out.step (hb))
  replace R2 := hide (R2.out.step (hb))
  replace HB := hide (HB.out.trans ((hb).mono HB.out.size))
  have I0 := hide (n)
  clear hb n hsz
  have hP10 := P1.out.cell0
  have hP11 := P1.out.cell1
  have ltP1 := P1.out.lt
  go_wp2_with fail
  clear ltP1
  clear hP10 hP11
  have hx0 := R2.out.lt
  have V0 := Box4.new u1 (.bool s7) (.slice m7 n7 c7) (.bool t7) (.slice o7 p7 d7)
  replace V0 := hide V0
  have al := below_alloc u1 (.cells #[.bool s7, .slice m7 n7 c7, .bool t7, .slice o7 p7 d7] 29)
  replace P0 := hide (P0.out.step (al))
  replace P1 := hide (P1.out.step (al))
  replace P2 := hide (P2.out.step (al))
  replace R0 := hide (R0.out.step (al))
  replace R1 := hide (R1.out.step (al))
  replace R2 := hide (R2.out.step (al))
  replace HB := hide (HB.out.trans ((al).mono HB.out.size))
  replace I0 := hide (I0.out.below (al))
  clear al
  generalize (u1.alloc (.cells #[.bool s7, .slice m7 n7 c7, .bool t7, .slice o7 p7 d7] 29)) = u1a at *
  generalize u1.heap.size = ga at *
  refine (alone_any b2 b3 _ l2 l3).mono ?_
  rintro e u2 ⟨⟨v, y, k1, rfl, n, hsz⟩, hb⟩
  obtain ⟨s8, m8, n8, c8, t8, o8, p8, d8, rfl, n⟩ := n.cells
  have Z1 := hide hsz
  replace P0 := hide (P0.out.step (hb))
  replace P1 := hide (P1.out.step (hb))
  replace P2 := hide (P2.out.step (hb))
  replace R0 := hide (R0.out.step (hb))
  replace R1 := hide (R1.out.step (hb))
  replace R2 := hide (R2.out.step (hb))
  replace HB := hide (HB.out.trans ((hb).mono HB.out.size))
  replace I0 := hide (I0.out.below (hb))
  replace V0 := hide (V0.out.step (hb))
  have I1 := hide (n)
  clear hb n hsz
  have hP20 := P2.out.cell0
  have hP21 := P2.out.cell1
  have ltP2 := P2.out.lt
  go_wp2_with fail
  clear ltP2
  clear hP20 hP21
  have hx1 := R2.out.lt
  have V1 := Box4.new u2 (.bool s8) (.slice m8 n8 c8) (.bool t8) (.slice o8 p8 d8)
  replace V1 := hide V1
  have al := below_alloc u2 (.cells #[.bool s8, .slice m8 n8 c8, .bool t8, .slice o8 p8 d8] 29)
  replace P0 := hide (P0.out.step (al))
  replace P1 := hide (P1.out.step (al))
  replace P2 := hide (P2.out.step (al))
  replace R0 := hide (R0.out.step (al))
  replace R1 := hide (R1.out.step (al))
  replace R2 := hide (R2.out.step (al))
  replace HB := hide (HB.out.trans ((al).mono HB.out.size))
  replace I0 := hide (I0.out.below (al))
  replace V0 := hide (V0.out.step (al))
  replace I1 := hide (I1.out.below (al))
  clear al
  generalize (u2.alloc (.cells #[.bool s8, .slice m8 n8 c8, .bool t8, .slice o8 p8 d8] 29)) = u2a at *
  generalize u2.heap.size = gb at *
  refine (alone_any b4 b5 _ l4 l5).mono ?_
  rintro e u3 ⟨⟨v, z, k2, rfl, n, hsz⟩, hb⟩
  obtain ⟨s9, m9, n9, c9, t9, o9, p9, d9, rfl, n⟩ := n.cells
  have Z2 := hide hsz
  replace P0 := hide (P0.out.step (hb))
  replace P1 := hide (P1.out.step (hb))
  replace P2 := hide (P2.out.step (hb))
  replace R0 := hide (R0.out.step (hb))
  replace R1 := hide (R1.out.step (hb))
  replace R2 := hide (R2.out.step (hb))
  replace HB := hide (HB.out.trans ((hb).mono HB.out.size))
  replace I0 := hide (I0.out.below (hb))
  replace V0 := hide (V0.out.step (hb))
  replace I1 := hide (I1.out.below (hb))
  replace V1 := hide (V1.out.step (hb))
  have I2 := hide (n)
  clear hb n hsz
  go_wp2_with fail
  have hx2 := R2.out.lt
  have V2 := Box4.new u3 (.bool s9) (.slice m9 n9 c9) (.bool t9) (.slice o9 p9 d9)
  replace V2 := hide V2
  have al := below_alloc u3 (.cells #[.bool s9, .slice m9 n9 c9, .bool t9, .slice o9 p9 d9] 29)
  replace P0 := hide (P0.out.step (al))
  replace P1 := hide (P1.out.step (al))
  replace P2 := hide (P2.out.step (al))
  replace R0 := hide (R0.out.step (al))
  replace R1 := hide (R1.out.step (al))
  replace R2 := hide (R2.out.step (al))
  replace HB := hide (HB.out.trans ((al).mono HB.out.size))
  replace I0 := hide (I0.out.below (al))
  replace V0 := hide (V0.out.step (al))
  replace I1 := hide (I1.out.below (al))
  replace V1 := hide (V1.out.step (al))
  replace I2 := hide (I2.out.below (al))
  clear al
  generalize (u3.alloc (.cells #[.bool s9, .slice m9 n9 c9, .bool t9, .slice o9 p9 d9] 29)) = u3a at *
  generalize u3.heap.size = gc at *
  have LTS := hide (And.intro hx0 (And.intro hx1 hx2))
  clear hx0 hx1 hx2
  cases k0 with
  | false =>
    replace R0 := hide R0.out.drew
    replace R1 := hide R1.out.drew
    replace R2 := hide R2.out.drew
    refine wp_calm (fun w' => Below w.heap.size w w' ∧ BoxF w' w.heap.size (.string b0) (.string b1) ∧ BoxF w' (w.heap.size + 1) (.string b2) (.string b3) ∧ BoxF w' (w.heap.size + 1 + 1) (.string b4) (.string b5) ∧ Box4 w' ga (.bool s7) (.slice m7 n7 c7) (.bool t7) (.slice o7 p7 d7) ∧ Box4 w' gb (.bool s8) (.slice m8 n8 c8) (.bool t8) (.slice o8 p8 d8) ∧ Box4 w' gc (.bool s9) (.slice m9 n9 c9) (.bool t9) (.slice o9 p9 d9) ∧ RatAt w' (.agg #[.bool s7, .slice m7 n7 c7, .bool t7, .slice o7 p7 d7]) x ∧ RatAt w' (.agg #[.bool s8, .slice m8 n8 c8, .bool t8, .slice o8 p8 d8]) y ∧ RatAt w' (.agg #[.bool s9, .slice m9 n9 c9, .bool t9, .slice o9 p9 d9]) z) (fun _ => true) 22 #[false, false, false, false, false, false, false, false, false, false, false, false, false, false, false, false, false, false, false, false, false, false] (by kernel_rfl) rfl rfl ?_
    have HF := hide (And.intro (HB.out.drew) (And.intro (P0.out.drew) (And.intro (P1.out.drew) (And.intro (P2.out.drew) (And.intro (V0.out.drew) (And.intro (V1.out.drew) (And.intro (V2.out.drew) (And.intro (I0.out.drew) (And.intro (I1.out.drew) (I2.out.drew))))))))))
    generalize u3a.drew = u3ad at *
    refine Calm.take (i := 0) (v := ?_) (a' := ?_) (l' := #[true, false, false, false, false, false, false, false, false, false, false, false, false, false, false, false, false, false, false, false, false, false]) (d := some 31) rfl (by kernel_rfl) (by kernel_rfl) (by kernel_rfl) (by kernel_rfl) (fun _ _ _ h => h) HF.out rfl ?_ rfl rfl ?_ ?_
    rotate_left
    · intro w' hF; have f10 := hF.2.1.cell0; have f11 := hF.2.1.cell1; have f20 := hF.2.2.1.cell0; have f21 := hF.2.2.1.cell1; have f30 := hF.2.2.2.1.cell0; have f31 := hF.2.2.2.1.cell1; have f40 := hF.2.2.2.2.1.cell0; have f41 := hF.2.2.2.2.1.cell1; have f42 := hF.2.2.2.2.1.cell2; have f43 := hF.2.2.2.2.1.cell3; have f50 := hF.2.2.2.2.2.1.cell0; have f51 := hF.2.2.2.2.2.1.cell1; have f52 := hF.2.2.2.2.2.1.cell2; have f53 := hF.2.2.2.2.2.1.cell3; have f60 := hF.2.2.2.2.2.2.1.cell0; have f61 := hF.2.2.2.2.2.2.1.cell1; have f62 := hF.2.2.2.2.2.2.1.cell2; have f63 := hF.2.2.2.2.2.2.1.cell3; clear hF; go_simp; try rfl
    rotate_left
    · simp only [Act.put]; exact rfl
    refine Calm.take (i := 1) (v := ?_) (a' := ?_) (l' := #[true, true, false, false, false, false, false, false, false, false, false, false, false, false, false, false, false, false, false, false, false, false]) (d := some 32) rfl (by kernel_rfl) (by kernel_rfl) (by kernel_rfl) (by kernel_rfl) (fun _ _ _ h => h) HF.out rfl ?_ rfl rfl ?_ ?_
    rotate_left
    · intro w' hF; have f10 := hF.2.1.cell0; have f11 := hF.2.1.cell1; have f20 := hF.2.2.1.cell0; have f21 := hF.2.2.1.cell1; have f30 := hF.2.2.2.1.cell0; have f31 := hF.2.2.2.1.cell1; have f40 := hF.2.2.2.2.1.cell0; have f41 := hF.2.2.2.2.1.cell1; have f42 := hF.2.2.2.2.1.cell2; have f43 := hF.2.2.2.2.1.cell3; have f50 := hF.2.2.2.2.2.1.cell0; have f51 := hF.2.2.2.2.2.1.cell1; have f52 := hF.2.2.2.2.2.1.cell2; have f53 := hF.2.2.2.2.2.1.cell3; have f60 := hF.2.2.2.2.2.2.1.cell0; have f61 := hF.2.2.2.2.2.2.1.cell1; have f62 := hF.2.2.2.2.2.2.1.cell2; have f63 := hF.2.2.2.2.2.2.1.cell3; clear hF; go_simp; try rfl
    rotate_left
    · simp only [Act.put]; exact rfl
    refine Calm.take (i := 2) (v := ?_) (a' := ?_) (l' := #[true, true, true, false, false, false, false, false, false, false, false, false, false, false, false, false, false, false, false, false, false, false]) (d := some 33) rfl (by kernel_rfl) (by kernel_rfl) (by kernel_rfl) (by kernel_rfl) (fun _ _ _ h => h) HF.out rfl ?_ rfl rfl ?_ ?_
    rotate_left
    · intro w' hF; have f10 := hF.2.1.cell0; have f11 := hF.2.1.cell1; have f20 := hF.2.2.1.cell0; have f21 := hF.2.2.1.cell1; have f30 := hF.2.2.2.1.cell0; have f31 := hF.2.2.2.1.cell1; have f40 := hF.2.2.2.2.1.cell0; have f41 := hF.2.2.2.2.1.cell1; have f42 := hF.2.2.2.2.1.cell2; have f43 := hF.2.2.2.2.1.cell3; have f50 := hF.2.2.2.2.2.1.cell0; have f51 := hF.2.2.2.2.2.1.cell1; have f52 := hF.2.2.2.2.2.1.cell2; have f53 := hF.2.2.2.2.2.1.cell3; have f60 := hF.2.2.2.2.2.2.1.cell0; have f61 := hF.2.2.2.2.2.2.1.cell1; have f62 := hF.2.2.2.2.2.2.1.cell2; have f63 := hF.2.2.2.2.2.2.1.cell3; clear hF; go_simp; try rfl
    rotate_left
    · simp only [Act.put]; exact rfl
    refine Calm.take (i := 3) (v := ?_) (a' := ?_) (l' := #[true, true, true, true, false, false, false, false, false, false, false, false, false, false, false, false, false, false, false, false, false, false]) (d := some 34) rfl (by kernel_rfl) (by kernel_rfl) (by kernel_rfl) (by kernel_rfl) (fun _ _ _ h => h) HF.out rfl ?_ rfl rfl ?_ ?_
    rotate_left
    · intro w' hF; clear hF; go_simp; try rfl
    rotate_left
    · simp only [Act.put]; exact rfl
    refine Calm.take (i := 4) (v := ?_) (a' := ?_) (l' := #[true, true, true, true, true, false, false, false, false, false, false, false, false, false, false, false, false, false, false, false, false, false]) (d := some 35) rfl (by kernel_rfl) (by kernel_rfl) (by kernel_rfl) (by kernel_rfl) (fun _ _ _ h => h) HF.out rfl ?_ rfl rfl ?_ ?_
    rotate_left
    · intro w' hF; clear hF; go_simp; try rfl
    rotate_left
    · simp only [Act.put]; exact rfl
    refine Calm.skip3 (i := 5) (a' := ?_) (l' := #[true, true, true, true, true, true, false, false, false, false, false, false, false, false, false, false, false, false, false, false, false, false]) (d := some 36) rfl (by kernel_rfl) (by kernel_rfl) (by kernel_rfl) (by kernel_rfl) (fun _ _ _ h => h) HF.out (by kernel_rfl) rfl rfl ?_ ?_
    rotate_left
    · simp only [Act.put]; exact rfl
    refine Calm.take (i := 6) (v := ?_) (a' := ?_) (l' := #[true, true, true, true, true, true, true, false, false, false, false, false, false, false, false, false, false, false, false, false, false, false]) (d := some 37) rfl (by kernel_rfl) (by kernel_rfl) (by kernel_rfl) (by kernel_rfl) (fun _ _ _ h => h) HF.out rfl ?_ rfl rfl ?_ ?_
    rotate_left
    · intro w' hF; clear hF; go_simp; try rfl
    rotate_left
    · simp only [Act.put]; exact rfl
    refine Calm.take (i := 7) (v := ?_) (a' := ?_) (l' := #[true, true, true, true, true, true, true, true, false, false, false, false, false, false, false, false, false, false, false, false, false, false]) (d := some 38) rfl (by kernel_rfl) (by kernel_rfl) (by kernel_rfl) (by kernel_rfl) (fun _ _ _ h => h) HF.out rfl ?_ rfl rfl ?_ ?_
    rotate_left
    · intro w' hF; clear hF; go_simp; try rfl
    rotate_left
    · simp only [Act.put]; exact rfl
    refine Calm.skip3 (i := 8) (a' := ?_) (l' := #[true, true, true, true, true, true, true, true, true, false, false, false, false, false, false, false, false, false, false, false, false, false]) (d := some 39) rfl (by kernel_rfl) (by kernel_rfl) (by kernel_rfl) (by kernel_rfl) (fun _ _ _ h => h) HF.out (by kernel_rfl) rfl rfl ?_ ?_
    rotate_left
    · simp only [Act.put]; exact rfl
    refine Calm.take (i := 9) (v := ?_) (a' := ?_) (l' := #[true, true, true, true, true, true, true, true, true, true, false, false, false, false, false, false, false, false, false, false, false, false]) (d := some 40) rfl (by kernel_rfl) (by kernel_rfl) (by kernel_rfl) (by kernel_rfl) (fun _ _ _ h => h) HF.out rfl ?_ rfl rfl ?_ ?_
    rotate_left
    · intro w' hF; clear hF; go_simp; try rfl
    rotate_left
    · simp only [Act.put]; exact rfl
    refine Calm.take (i := 10) (v := ?_) (a' := ?_) (l' := #[true, true, true, true, true, true, true, true, true, true, true, false, false, false, false, false, false, false, false, false, false, false]) (d := some 41) rfl (by kernel_rfl) (by kernel_rfl) (by kernel_rfl) (by kernel_rfl) (fun _ _ _ h => h) HF.out rfl ?_ rfl rfl ?_ ?_
    rotate_left
    · intro w' hF; clear hF; go_simp; try rfl
    rotate_left
    · simp only [Act.put]; exact rfl
    refine Calm.skip3 (i := 11) (a' := ?_) (l' := #[true, true, true, true, true, true, true, true, true, true, true, true, false, false, false, false, false, false, false, false, false, false]) (d := some 42) rfl (by kernel_rfl) (by kernel_rfl) (by kernel_rfl) (by kernel_rfl) (fun _ _ _ h => h) HF.out (by kernel_rfl) rfl rfl ?_ ?_
    rotate_left
    · simp only [Act.put]; exact rfl
    refine Calm.skip3 (i := 12) (a' := ?_) (l' := #[true, true, true, true, true, true, true, true, true, true, true, true, true, false, false, false, false, false, false, false, false, false]) (d := some 43) rfl (by kernel_rfl) (by kernel_rfl) (by kernel_rfl) (by kernel_rfl) (fun _ _ _ h => h) HF.out (by kernel_rfl) rfl rfl ?_ ?_
    rotate_left
    · simp only [Act.put]; exact rfl
    refine Calm.skip3 (i := 13) (a' := ?_) (l' := #[true, true, true, true, true, true, true, true, true, true, true, true, true, true, false, false, false, false, false, false, false, false]) (d := some 44) rfl (by kernel_rfl) (by kernel_rfl) (by kernel_rfl) (by kernel_rfl) (fun _ _ _ h => h) HF.out (by kernel_rfl) rfl rfl ?_ ?_
    rotate_left
    · simp only [Act.put]; exact rfl
    refine Calm.skip3 (i := 14) (a' := ?_) (l' := #[true, true, true, true, true, true, true, true, true, true, true, true, true, true, true, false, false, false, false, false, false, false]) (d := some 45) rfl (by kernel_rfl) (by kernel_rfl) (by kernel_rfl) (by kernel_rfl) (fun _ _ _ h => h) HF.out (by kernel_rfl) rfl rfl ?_ ?_
    rotate_left
    · simp only [Act.put]; exact rfl
    refine Calm.skip3 (i := 15) (a' := ?_) (l' := #[true, true, true, true, true, true, true, true, true, true, true, true, true, true, true, true, false, false, false, false, false, false]) (d := some 46) rfl (by kernel_rfl) (by kernel_rfl) (by kernel_rfl) (by kernel_rfl) (fun _ _ _ h => h) HF.out (by kernel_rfl) rfl rfl ?_ ?_
    rotate_left
    · simp only [Act.put]; exact rfl
    refine Calm.skip3 (i := 16) (a' := ?_) (l' := #[true, true, true, true, true, true, true, true, true, true, true, true, true, true, true, true, true, false, false, false, false, false]) (d := some 47) rfl (by kernel_rfl) (by kernel_rfl) (by kernel_rfl) (by kernel_rfl) (fun _ _ _ h => h) HF.out (by kernel_rfl) rfl rfl ?_ ?_
    rotate_left
    · simp only [Act.put]; exact rfl
    refine Calm.take (i := 17) (v := ?_) (a' := ?_) (l' := #[true, true, true, true, true, true, true, true, true, true, true, true, true, true, true, true, true, true, false, false, false, false]) (d := some 48) rfl (by kernel_rfl) (by kernel_rfl) (by kernel_rfl) (by kernel_rfl) (fun _ _ _ h => h) HF.out rfl ?_ rfl rfl ?_ ?_
    rotate_left
    · intro w' hF; clear hF; go_simp; try rfl
    rotate_left
    · simp only [Act.put]; exact rfl
    refine Calm.one (i := 18) (l' := #[true, true, true, true, true, true, true, true, true, true, true, true, true, true, true, true, true, true, true, false, false, false]) (by kernel_rfl) rfl rfl rfl fun K hK => ?_
    have hc0 := R0.out.cell0
    have hc1 := R0.out.cell1
    have hc2 := R0.out.cell2
    have hc3 := R0.out.cell3
    have hf0 := R0.out.free 0
    have hf1 := R0.out.free 1
    have hf2 := R0.out.free 2
    have hf3 := R0.out.free 3
    go_simp
    have HF' := hide (And.intro (below_put4 HF.out.1 (show w.heap.size ≤ (w.heap.size + 1 + 1 + 1) by have hx := LTS.out; omega) (.bool s7) (.slice m7 n7 c7) (.bool t7) (.slice o7 p7 d7)) (And.intro (HF.out.2.1.other4 (C := (w.heap.size + 1 + 1 + 1)) (by have hx := LTS.out; omega) (.bool s7) (.slice m7 n7 c7) (.bool t7) (.slice o7 p7 d7)) (And.intro (HF.out.2.2.1.other4 (C := (w.heap.size + 1 + 1 + 1)) (by have hx := LTS.out; omega) (.bool s7) (.slice m7 n7 c7) (.bool t7) (.slice o7 p7 d7)) (And.intro (HF.out.2.2.2.1.other4 (C := (w.heap.size + 1 + 1 + 1)) (by have hx := LTS.out; omega) (.bool s7) (.slice m7 n7 c7) (.bool t7) (.slice o7 p7 d7)) (And.intro (HF.out.2.2.2.2.1.other4 (C := (w.heap.size + 1 + 1 + 1)) (by have hx := LTS.out; omega) (.bool s7) (.slice m7 n7 c7) (.bool t7) (.slice o7 p7 d7)) (And.intro (HF.out.2.2.2.2.2.1.other4 (C := (w.heap.size + 1 + 1 + 1)) (by have hx := LTS.out; omega) (.bool s7) (.slice m7 n7 c7) (.bool t7) (.slice o7 p7 d7)) (And.intro (HF.out.2.2.2.2.2.2.1.other4 (C := (w.heap.size + 1 + 1 + 1)) (by have hx := LTS.out; omega) (.bool s7) (.slice m7 n7 c7) (.bool t7) (.slice o7 p7 d7)) (And.intro (HF.out.2.2.2.2.2.2.2.1.keep (R0.out.keeps (by simp) (by simp) (by simp) (by simp) (.bool s7) (.slice m7 n7 c7) (.bool t7) (.slice o7 p7 d7))) (And.intro (HF.out.2.2.2.2.2.2.2.2.1.keep (R0.out.keeps (by simp) (by simp) (by simp) (by simp) (.bool s7) (.slice m7 n7 c7) (.bool t7) (.slice o7 p7 d7))) (HF.out.2.2.2.2.2.2.2.2.2.keep (R0.out.keeps (by simp) (by simp) (by simp) (by simp) (.bool s7) (.slice m7 n7 c7) (.bool t7) (.slice o7 p7 d7))))))))))))
    replace R1 := hide (R1.out.other4 (C := (w.heap.size + 1 + 1 + 1)) (by have hx := LTS.out; omega) (.bool s7) (.slice m7 n7 c7) (.bool t7) (.slice o7 p7 d7))
    replace R2 := hide (R2.out.other4 (C := (w.heap.size + 1 + 1 + 1)) (by have hx := LTS.out; omega) (.bool s7) (.slice m7 n7 c7) (.bool t7) (.slice o7 p7 d7))
    replace R0 := hide (R0.out.put (.bool s7) (.slice m7 n7 c7) (.bool t7) (.slice o7 p7 d7))
    refine hK _ _ (fun _ => HF'.out) ?_
    clear hK K HF hc0 hf0 hc1 hf1 hc2 hf2 hc3 hf3
    have HF := hide HF'.out
    clear HF'
    generalize ((((u3ad.setCell ⟨(w.heap.size + 1 + 1 + 1), 0, none⟩ (.bool s7)).setCell ⟨(w.heap.size + 1 + 1 + 1), 1, none⟩ (.slice m7 n7 c7)).setCell ⟨(w.heap.size + 1 + 1 + 1), 2, none⟩ (.bool t7)).setCell ⟨(w.heap.size + 1 + 1 + 1), 3, none⟩ (.slice o7 p7 d7)) = ws0 at *
    refine Calm.one (i := 19) (l' := #[true, true, true, true, true, true, true, true, true, true, true, true, true, true, true, true, true, true, true, true, false, false]) (by kernel_rfl) rfl rfl rfl fun K hK => ?_
    have hc0 := R1.out.cell0
    have hc1 := R1.out.cell1
    have hc2 := R1.out.cell2
    have hc3 := R1.out.cell3
    have hf0 := R1.out.free 0
    have hf1 := R1.out.free 1
    have hf2 := R1.out.free 2
    have hf3 := R1.out.free 3
    go_simp
    have HF' := hide (And.intro (below_put4 HF.out.1 (show w.heap.size ≤ (w.heap.size + 1 + 1 + 1 + 1) by have hx := LTS.out; omega) (.bool s8) (.slice m8 n8 c8) (.bool t8) (.slice o8 p8 d8)) (And.intro (HF.out.2.1.other4 (C := (w.heap.size + 1 + 1 + 1 + 1)) (by have hx := LTS.out; omega) (.bool s8) (.slice m8 n8 c8) (.bool t8) (.slice o8 p8 d8)) (And.intro (HF.out.2.2.1.other4 (C := (w.heap.size + 1 + 1 + 1 + 1)) (by have hx := LTS.out; omega) (.bool s8) (.slice m8 n8 c8) (.bool t8) (.slice o8 p8 d8)) (And.intro (HF.out.2.2.2.1.other4 (C := (w.heap.size + 1 + 1 + 1 + 1)) (by have hx := LTS.out; omega) (.bool s8) (.slice m8 n8 c8) (.bool t8) (.slice o8 p8 d8)) (And.intro (HF.out.2.2.2.2.1.other4 (C := (w.heap.size + 1 + 1 + 1 + 1)) (by have hx := LTS.out; omega) (.bool s8) (.slice m8 n8 c8) (.bool t8) (.slice o8 p8 d8)) (And.intro (HF.out.2.2.2.2.2.1.other4 (C := (w.heap.size + 1 + 1 + 1 + 1)) (by have hx := LTS.out; omega) (.bool s8) (.slice m8 n8 c8) (.bool t8) (.slice o8 p8 d8)) (And.intro (HF.out.2.2.2.2.2.2.1.other4 (C := (w.heap.size + 1 + 1 + 1 + 1)) (by have hx := LTS.out; omega) (.bool s8) (.slice m8 n8 c8) (.bool t8) (.slice o8 p8 d8)) (And.intro (HF.out.2.2.2.2.2.2.2.1.keep (R1.out.keeps (by simp) (by simp) (by simp) (by simp) (.bool s8) (.slice m8 n8 c8) (.bool t8) (.slice o8 p8 d8))) (And.intro (HF.out.2.2.2.2.2.2.2.2.1.keep (R1.out.keeps (by simp) (by simp) (by simp) (by simp) (.bool s8) (.slice m8 n8 c8) (.bool t8) (.slice o8 p8 d8))) (HF.out.2.2.2.2.2.2.2.2.2.keep (R1.out.keeps (by simp) (by simp) (by simp) (by simp) (.bool s8) (.slice m8 n8 c8) (.bool t8) (.slice o8 p8 d8))))))))))))
    replace R0 := hide (R0.out.other4 (C := (w.heap.size + 1 + 1 + 1 + 1)) (by have hx := LTS.out; omega) (.bool s8) (.slice m8 n8 c8) (.bool t8) (.slice o8 p8 d8))
    replace R2 := hide (R2.out.other4 (C := (w.heap.size + 1 + 1 + 1 + 1)) (by have hx := LTS.out; omega) (.bool s8) (.slice m8 n8 c8) (.bool t8) (.slice o8 p8 d8))
    replace R1 := hide (R1.out.put (.bool s8) (.slice m8 n8 c8) (.bool t8) (.slice o8 p8 d8))
    refine hK _ _ (fun _ => HF'.out) ?_
    clear hK K HF hc0 hf0 hc1 hf1 hc2 hf2 hc3 hf3
    have HF := hide HF'.out
    clear HF'
    generalize ((((ws0.setCell ⟨(w.heap.size + 1 + 1 + 1 + 1), 0, none⟩ (.bool s8)).setCell ⟨(w.heap.size + 1 + 1 + 1 + 1), 1, none⟩ (.slice m8 n8 c8)).setCell ⟨(w.heap.size + 1 + 1 + 1 + 1), 2, none⟩ (.bool t8)).setCell ⟨(w.heap.size + 1 + 1 + 1 + 1), 3, none⟩ (.slice o8 p8 d8)) = ws1 at *
    refine Calm.one (i := 20) (l' := #[true, true, true, true, true, true, true, true, true, true, true, true, true, true, true, true, true, true, true, true, true, false]) (by kernel_rfl) rfl rfl rfl fun K hK => ?_
    have hc0 := R2.out.cell0
    have hc1 := R2.out.cell1
    have hc2 := R2.out.cell2
    have hc3 := R2.out.cell3
    have hf0 := R2.out.free 0
    have hf1 := R2.out.free 1
    have hf2 := R2.out.free 2
    have hf3 := R2.out.free 3
    go_simp
    have HF' := hide (And.intro (below_put4 HF.out.1 (show w.heap.size ≤ (w.heap.size + 1 + 1 + 1 + 1 + 1) by have hx := LTS.out; omega) (.bool s9) (.slice m9 n9 c9) (.bool t9) (.slice o9 p9 d9)) (And.intro (HF.out.2.1.other4 (C := (w.heap.size + 1 + 1 + 1 + 1 + 1)) (by have hx := LTS.out; omega) (.bool s9) (.slice m9 n9 c9) (.bool t9) (.slice o9 p9 d9)) (And.intro (HF.out.2.2.1.other4 (C := (w.heap.size + 1 + 1 + 1 + 1 + 1)) (by have hx := LTS.out; omega) (.bool s9) (.slice m9 n9 c9) (.bool t9) (.slice o9 p9 d9)) (And.intro (HF.out.2.2.2.1.other4 (C := (w.heap.size + 1 + 1 + 1 + 1 + 1)) (by have hx := LTS.out; omega) (.bool s9) (.slice m9 n9 c9) (.bool t9) (.slice o9 p9 d9)) (And.intro (HF.out.2.2.2.2.1.other4 (C := (w.heap.size + 1 + 1 + 1 + 1 + 1)) (by have hx := LTS.out; omega) (.bool s9) (.slice m9 n9 c9) (.bool t9) (.slice o9 p9 d9)) (And.intro (HF.out.2.2.2.2.2.1.other4 (C := (w.heap.size + 1 + 1 + 1 + 1 + 1)) (by have hx := LTS.out; omega) (.bool s9) (.slice m9 n9 c9) (.bool t9) (.slice o9 p9 d9)) (And.intro (HF.out.2.2.2.2.2.2.1.other4 (C := (w.heap.size + 1 + 1 + 1 + 1 + 1)) (by have hx := LTS.out; omega) (.bool s9) (.slice m9 n9 c9) (.bool t9) (.slice o9 p9 d9)) (And.intro (HF.out.2.2.2.2.2.2.2.1.keep (R2.out.keeps (by simp) (by simp) (by simp) (by simp) (.bool s9) (.slice m9 n9 c9) (.bool t9) (.slice o9 p9 d9))) (And.intro (HF.out.2.2.2.2.2.2.2.2.1.keep (R2.out.keeps (by simp) (by simp) (by simp) (by simp) (.bool s9) (.slice m9 n9 c9) (.bool t9) (.slice o9 p9 d9))) (HF.out.2.2.2.2.2.2.2.2.2.keep (R2.out.keeps (by simp) (by simp) (by simp) (by simp) (.bool s9) (.slice m9 n9 c9) (.bool t9) (.slice o9 p9 d9))))))))))))
    replace R0 := hide (R0.out.other4 (C := (w.heap.size + 1 + 1 + 1 + 1 + 1)) (by have hx := LTS.out; omega) (.bool s9) (.slice m9 n9 c9) (.bool t9) (.slice o9 p9 d9))
    replace R1 := hide (R1.out.other4 (C := (w.heap.size + 1 + 1 + 1 + 1 + 1)) (by have hx := LTS.out; omega) (.bool s9) (.slice m9 n9 c9) (.bool t9) (.slice o9 p9 d9))
    replace R2 := hide (R2.out.put (.bool s9) (.slice m9 n9 c9) (.bool t9) (.slice o9 p9 d9))
    refine hK _ _ (fun _ => HF'.out) ?_
    clear hK K HF hc0 hf0 hc1 hf1 hc2 hf2 hc3 hf3
    have HF := hide HF'.out
    clear HF'
    generalize ((((ws1.setCell ⟨(w.heap.size + 1 + 1 + 1 + 1 + 1), 0, none⟩ (.bool s9)).setCell ⟨(w.heap.size + 1 + 1 + 1 + 1 + 1), 1, none⟩ (.slice m9 n9 c9)).setCell ⟨(w.heap.size + 1 + 1 + 1 + 1 + 1), 2, none⟩ (.bool t9)).setCell ⟨(w.heap.size + 1 + 1 + 1 + 1 + 1), 3, none⟩ (.slice o9 p9 d9)) = ws2 at *
    refine Calm.take (i := 21) (v := ?_) (a' := ?_) (l' := #[true, true, true, true, true, true, true, true, true, true, true, true, true, true, true, true, true, true, true, true, true, true]) (d := some 9) rfl (by kernel_rfl) (by kernel_rfl) (by kernel_rfl) (by kernel_rfl) (fun _ _ _ h => h) HF.out rfl ?_ rfl rfl ?_ ?_
    rotate_left
    · intro w' hF; clear hF; go_simp; try rfl
    rotate_left
    · simp only [Act.put]; exact rfl
    refine Calm.done (by kernel_rfl) ?_
    replace HB := hide HF.out.1
    replace P0 := hide HF.out.2.1
    replace P1 := hide HF.out.2.2.1
    replace P2 := hide HF.out.2.2.2.1
    replace V0 := hide HF.out.2.2.2.2.1
    replace V1 := hide HF.out.2.2.2.2.2.1
    replace V2 := hide HF.out.2.2.2.2.2.2.1
    replace I0 := hide HF.out.2.2.2.2.2.2.2.1
    replace I1 := hide HF.out.2.2.2.2.2.2.2.2.1
    replace I2 := hide HF.out.2.2.2.2.2.2.2.2.2
    clear HF
    refine (by assumption : ∀ (a : Act) (w : World), Code.wp Try.prog Code.ret _ a w → _) _ _ ?_
    refine wp_ret ?_
    refine ret_three rfl (w.heap.size + 1 + 1 + 1) (w.heap.size + 1 + 1 + 1 + 1) (w.heap.size + 1 + 1 + 1 + 1 + 1) _ _ _ _ _ _ _ _ _ _ _ _ false (by kernel_rfl) (by kernel_rfl) (by kernel_rfl) (by kernel_rfl) R0.out R1.out R2.out rfl ?_
    exact ⟨⟨_, _, _, x, y, z, false, rfl, I0.out, I1.out, I2.out, Z0.out, Z1.out, Z2.out⟩, HB.out⟩
  | true =>
    cases k1 with
    | false =>
      replace R0 := hide R0.out.drew
      replace R1 := hide R1.out.drew
      replace R2 := hide R2.out.drew
      refine wp_calm (fun w' => Below w.heap.size w w' ∧ BoxF w' w.heap.size (.string b0) (.string b1) ∧ BoxF w' (w.heap.size + 1) (.string b2) (.string b3) ∧ BoxF w' (w.heap.size + 1 + 1) (.string b4) (.string b5) ∧ Box4 w' ga (.bool s7) (.slice m7 n7 c7) (.bool t7) (.slice o7 p7 d7) ∧ Box4 w' gb (.bool s8) (.slice m8 n8 c8) (.bool t8) (.slice o8 p8 d8) ∧ Box4 w' gc (.bool s9) (.slice m9 n9 c9) (.bool t9) (.slice o9 p9 d9) ∧ RatAt w' (.agg #[.bool s7, .slice m7 n7 c7, .bool t7, .slice o7 p7 d7]) x ∧ RatAt w' (.agg #[.bool s8, .slice m8 n8 c8, .bool t8, .slice o8 p8 d8]) y ∧ RatAt w' (.agg #[.bool s9, .slice m9 n9 c9, .bool t9, .slice o9 p9 d9]) z) (fun _ => true) 22 #[false, false, false, false, false, false, false, false, false, false, false, false, false, false, false, false, false, false, false, false, false, false] (by kernel_rfl) rfl rfl ?_
      have HF := hide (And.intro (HB.out.drew) (And.intro (P0.out.drew) (And.intro (P1.out.drew) (And.intro (P2.out.drew) (And.intro (V0.out.drew) (And.intro (V1.out.drew) (And.intro (V2.out.drew) (And.intro (I0.out.drew) (And.intro (I1.out.drew) (I2.out.drew))))))))))
      generalize u3a.drew = u3ad at *
      refine Calm.take (i := 0) (v := ?_) (a' := ?_) (l' := #[true, false, false, false, false, false, false, false, false, false, false, false, false, false, false, false, false, false, false, false, false, false]) (d := some 31) rfl (by kernel_rfl) (by kernel_rfl) (by kernel_rfl) (by kernel_rfl) (fun _ _ _ h => h) HF.out rfl ?_ rfl rfl ?_ ?_
      rotate_left
      · intro w' hF; have f10 := hF.2.1.cell0; have f11 := hF.2.1.cell1; have f20 := hF.2.2.1.cell0; have f21 := hF.2.2.1.cell1; have f30 := hF.2.2.2.1.cell0; have f31 := hF.2.2.2.1.cell1; have f40 := hF.2.2.2.2.1.cell0; have f41 := hF.2.2.2.2.1.cell1; have f42 := hF.2.2.2.2.1.cell2; have f43 := hF.2.2.2.2.1.cell3; have f50 := hF.2.2.2.2.2.1.cell0; have f51 := hF.2.2.2.2.2.1.cell1; have f52 := hF.2.2.2.2.2.1.cell2; have f53 := hF.2.2.2.2.2.1.cell3; have f60 := hF.2.2.2.2.2.2.1.cell0; have f61 := hF.2.2.2.2.2.2.1.cell1; have f62 := hF.2.2.2.2.2.2.1.cell2; have f63 := hF.2.2.2.2.2.2.1.cell3; clear hF; go_simp; try rfl
      rotate_left
      · simp only [Act.put]; exact rfl
      refine Calm.take (i := 1) (v := ?_) (a' := ?_) (l' := #[true, true, false, false, false, false, false, false, false, false, false, false, false, false, false, false, false, false, false, false, false, false]) (d := some 32) rfl (by kernel_rfl) (by kernel_rfl) (by kernel_rfl) (by kernel_rfl) (fun _ _ _ h => h) HF.out rfl ?_ rfl rfl ?_ ?_
      rotate_left
      · intro w' hF; have f10 := hF.2.1.cell0; have f11 := hF.2.1.cell1; have f20 := hF.2.2.1.cell0; have f21 := hF.2.2.1.cell1; have f30 := hF.2.2.2.1.cell0; have f31 := hF.2.2.2.1.cell1; have f40 := hF.2.2.2.2.1.cell0; have f41 := hF.2.2.2.2.1.cell1; have f42 := hF.2.2.2.2.1.cell2; have f43 := hF.2.2.2.2.1.cell3; have f50 := hF.2.2.2.2.2.1.cell0; have f51 := hF.2.2.2.2.2.1.cell1; have f52 := hF.2.2.2.2.2.1.cell2; have f53 := hF.2.2.2.2.2.1.cell3; have f60 := hF.2.2.2.2.2.2.1.cell0; have f61 := hF.2.2.2.2.2.2.1.cell1; have f62 := hF.2.2.2.2.2.2.1.cell2; have f63 := hF.2.2.2.2.2.2.1.cell3; clear hF; go_simp; try rfl
      rotate_left
      · simp only [Act.put]; exact rfl
      refine Calm.take (i := 2) (v := ?_) (a' := ?_) (l' := #[true, true, true, false, false, false, false, false, false, false, false, false, false, false, false, false, false, false, false, false, false, false]) (d := some 33) rfl (by kernel_rfl) (by kernel_rfl) (by kernel_rfl) (by kernel_rfl) (fun _ _ _ h => h) HF.out rfl ?_ rfl rfl ?_ ?_
      rotate_left
      · intro w' hF; have f10 := hF.2.1.cell0; have f11 := hF.2.1.cell1; have f20 := hF.2.2.1.cell0; have f21 := hF.2.2.1.cell1; have f30 := hF.2.2.2.1.cell0; have f31 := hF.2.2.2.1.cell1; have f40 := hF.2.2.2.2.1.cell0; have f41 := hF.2.2.2.2.1.cell1; have f42 := hF.2.2.2.2.1.cell2; have f43 := hF.2.2.2.2.1.cell3; have f50 := hF.2.2.2.2.2.1.cell0; have f51 := hF.2.2.2.2.2.1.cell1; have f52 := hF.2.2.2.2.2.1.cell2; have f53 := hF.2.2.2.2.2.1.cell3; have f60 := hF.2.2.2.2.2.2.1.cell0; have f61 := hF.2.2.2.2.2.2.1.cell1; have f62 := hF.2.2.2.2.2.2.1.cell2; have f63 := hF.2.2.2.2.2.2.1.cell3; clear hF; go_simp; try rfl
      rotate_left
      · simp only [Act.put]; exact rfl
      refine Calm.take (i := 3) (v := ?_) (a' := ?_) (l' := #[true, true, true, true, false, false, false, false, false, false, false, false, false, false, false, false, false, false, false, false, false, false]) (d := some 34) rfl (by kernel_rfl) (by kernel_rfl) (by kernel_rfl) (by kernel_rfl) (fun _ _ _ h => h) HF.out rfl ?_ rfl rfl ?_ ?_
      rotate_left
      · intro w' hF; clear hF; go_simp; try rfl
      rotate_left
      · simp only [Act.put]; exact rfl
      refine Calm.take (i := 4) (v := ?_) (a' := ?_) (l' := #[true, true, true, true, true, false, false, false, false, false, false, false, false, false, false, false, false, false, false, false, false, false]) (d := some 35) rfl (by kernel_rfl) (by kernel_rfl) (by kernel_rfl) (by kernel_rfl) (fun _ _ _ h => h) HF.out rfl ?_ rfl rfl ?_ ?_
      rotate_left
      · intro w' hF; clear hF; go_simp; try rfl
      rotate_left
      · simp only [Act.put]; exact rfl
      refine Calm.take (i := 5) (v := ?_) (a' := ?_) (l' := #[true, true, true, true, true, true, false, false, false, false, false, false, false, false, false, false, false, false, false, false, false, false]) (d := some 36) rfl (by kernel_rfl) (by kernel_rfl) (by kernel_rfl) (by kernel_rfl) (fun _ _ _ h => h) HF.out (by kernel_rfl) ?_ rfl rfl ?_ ?_
      rotate_left
      · intro w' hF; clear hF; go_simp; try rfl
      rotate_left
      · simp only [Act.put]; exact rfl
      refine Calm.take (i := 6) (v := ?_) (a' := ?_) (l' := #[true, true, true, true, true, true, true, false, false, false, false, false, false, false, false, false, false, false, false, false, false, false]) (d := some 37) rfl (by kernel_rfl) (by kernel_rfl) (by kernel_rfl) (by kernel_rfl) (fun _ _ _ h => h) HF.out rfl ?_ rfl rfl ?_ ?_
      rotate_left
      · intro w' hF; clear hF; go_simp; try rfl
      rotate_left
      · simp only [Act.put]; exact rfl
      refine Calm.take (i := 7) (v := ?_) (a' := ?_) (l' := #[true, true, true, true, true, true, true, true, false, false, false, false, false, false, false, false, false, false, false, false, false, false]) (d := some 38) rfl (by kernel_rfl) (by kernel_rfl) (by kernel_rfl) (by kernel_rfl) (fun _ _ _ h => h) HF.out rfl ?_ rfl rfl ?_ ?_
      rotate_left
      · intro w' hF; clear hF; go_simp; try rfl
      rotate_left
      · simp only [Act.put]; exact rfl
      refine Calm.skip3 (i := 8) (a' := ?_) (l' := #[true, true, true, true, true, true, true, true, true, false, false, false, false, false, false, false, false, false, false, false, false, false]) (d := some 39) rfl (by kernel_rfl) (by kernel_rfl) (by kernel_rfl) (by kernel_rfl) (fun _ _ _ h => h) HF.out (by kernel_rfl) rfl rfl ?_ ?_
      rotate_left
      · simp only [Act.put]; exact rfl
      refine Calm.take (i := 9) (v := ?_) (a' := ?_) (l' := #[true, true, true, true, true, true, true, true, true, true, false, false, false, false, false, false, false, false, false, false, false, false]) (d := some 40) rfl (by kernel_rfl) (by kernel_rfl) (by kernel_rfl) (by kernel_rfl) (fun _ _ _ h => h) HF.out rfl ?_ rfl rfl ?_ ?_
      rotate_left
      · intro w' hF; clear hF; go_simp; try rfl
      rotate_left
      · simp only [Act.put]; exact rfl
      refine Calm.take (i := 10) (v := ?_) (a' := ?_) (l' := #[true, true, true, true, true, true, true, true, true, true, true, false, false, false, false, false, false, false, false, false, false, false]) (d := some 41) rfl (by kernel_rfl) (by kernel_rfl) (by kernel_rfl) (by kernel_rfl) (fun _ _ _ h => h) HF.out rfl ?_ rfl rfl ?_ ?_
      rotate_left
      · intro w' hF; clear hF; go_simp; try rfl
      rotate_left
      · simp only [Act.put]; exact rfl
      refine Calm.skip3 (i := 11) (a' := ?_) (l' := #[true, true, true, true, true, true, true, true, true, true, true, true, false, false, false, false, false, false, false, false, false, false]) (d := some 42) rfl (by kernel_rfl) (by kernel_rfl) (by kernel_rfl) (by kernel_rfl) (fun _ _ _ h => h) HF.out (by kernel_rfl) rfl rfl ?_ ?_
      rotate_left
      · simp only [Act.put]; exact rfl
      refine Calm.skip3 (i := 12) (a' := ?_) (l' := #[true, true, true, true, true, true, true, true, true, true, true, true, true, false, false, false, false, false, false, false, false, false]) (d := some 43) rfl (by kernel_rfl) (by kernel_rfl) (by kernel_rfl) (by kernel_rfl) (fun _ _ _ h => h) HF.out (by kernel_rfl) rfl rfl ?_ ?_
      rotate_left
      · simp only [Act.put]; exact rfl
      refine Calm.skip3 (i := 13) (a' := ?_) (l' := #[true, true, true, true, true, true, true, true, true, true, true, true, true, true, false, false, false, false, false, false, false, false]) (d := some 44) rfl (by kernel_rfl) (by kernel_rfl) (by kernel_rfl) (by kernel_rfl) (fun _ _ _ h => h) HF.out (by kernel_rfl) rfl rfl ?_ ?_
      rotate_left
      · simp only [Act.put]; exact rfl
      refine Calm.skip3 (i := 14) (a' := ?_) (l' := #[true, true, true, true, true, true, true, true, true, true, true, true, true, true, true, false, false, false, false, false, false, false]) (d := some 45) rfl (by kernel_rfl) (by kernel_rfl) (by kernel_rfl) (by kernel_rfl) (fun _ _ _ h => h) HF.out (by kernel_rfl) rfl rfl ?_ ?_
      rotate_left
      · simp only [Act.put]; exact rfl
      refine Calm.skip3 (i := 15) (a' := ?_) (l' := #[true, true, true, true, true, true, true, true, true, true, true, true, true, true, true, true, false, false, false, false, false, false]) (d := some 46) rfl (by kernel_rfl) (by kernel_rfl) (by kernel_rfl) (by kernel_rfl) (fun _ _ _ h => h) HF.out (by kernel_rfl) rfl rfl ?_ ?_
      rotate_left
      · simp only [Act.put]; exact rfl
      refine Calm.skip3 (i := 16) (a' := ?_) (l' := #[true, true, true, true, true, true, true, true, true, true, true, true, true, true, true, true, true, false, false, false, false, false]) (d := some 47) rfl (by kernel_rfl) (by kernel_rfl) (by kernel_rfl) (by kernel_rfl) (fun _ _ _ h => h) HF.out (by kernel_rfl) rfl rfl ?_ ?_
      rotate_left
      · simp only [Act.put]; exact rfl
      refine Calm.take (i := 17) (v := ?_) (a' := ?_) (l' := #[true, true, true, true, true, true, true, true, true, true, true, true, true, true, true, true, true, true, false, false, false, false]) (d := some 48) rfl (by kernel_rfl) (by kernel_rfl) (by kernel_rfl) (by kernel_rfl) (fun _ _ _ h => h) HF.out rfl ?_ rfl rfl ?_ ?_
      rotate_left
      · intro w' hF; clear hF; go_simp; try rfl
      rotate_left
      · simp only [Act.put]; exact rfl
      refine Calm.one (i := 18) (l' := #[true, true, true, true, true, true, true, true, true, true, true, true, true, true, true, true, true, true, true, false, false, false]) (by kernel_rfl) rfl rfl rfl fun K hK => ?_
      have hc0 := R0.out.cell0
      have hc1 := R0.out.cell1
      have hc2 := R0.out.cell2
      have hc3 := R0.out.cell3
      have hf0 := R0.out.free 0
      have hf1 := R0.out.free 1
      have hf2 := R0.out.free 2
      have hf3 := R0.out.free 3
      go_simp
      have HF' := hide (And.intro (below_put4 HF.out.1 (show w.heap.size ≤ (w.heap.size + 1 + 1 + 1) by have hx := LTS.out; omega) (.bool s7) (.slice m7 n7 c7) (.bool t7) (.slice o7 p7 d7)) (And.intro (HF.out.2.1.other4 (C := (w.heap.size + 1 + 1 + 1)) (by have hx := LTS.out; omega) (.bool s7) (.slice m7 n7 c7) (.bool t7) (.slice o7 p7 d7)) (And.intro (HF.out.2.2.1.other4 (C := (w.heap.size + 1 + 1 + 1)) (by have hx := LTS.out; omega) (.bool s7) (.slice m7 n7 c7) (.bool t7) (.slice o7 p7 d7)) (And.intro (HF.out.2.2.2.1.other4 (C := (w.heap.size + 1 + 1 + 1)) (by have hx := LTS.out; omega) (.bool s7) (.slice m7 n7 c7) (.bool t7) (.slice o7 p7 d7)) (And.intro (HF.out.2.2.2.2.1.other4 (C := (w.heap.size + 1 + 1 + 1)) (by have hx := LTS.out; omega) (.bool s7) (.slice m7 n7 c7) (.bool t7) (.slice o7 p7 d7)) (And.intro (HF.out.2.2.2.2.2.1.other4 (C := (w.heap.size + 1 + 1 + 1)) (by have hx := LTS.out; omega) (.bool s7) (.slice m7 n7 c7) (.bool t7) (.slice o7 p7 d7)) (And.intro (HF.out.2.2.2.2.2.2.1.other4 (C := (w.heap.size + 1 + 1 + 1)) (by have hx := LTS.out; omega) (.bool s7) (.slice m7 n7 c7) (.bool t7) (.slice o7 p7 d7)) (And.intro (HF.out.2.2.2.2.2.2.2.1.keep (R0.out.keeps (by simp) (by simp) (by simp) (by simp) (.bool s7) (.slice m7 n7 c7) (.bool t7) (.slice o7 p7 d7))) (And.intro (HF.out.2.2.2.2.2.2.2.2.1.keep (R0.out.keeps (by simp) (by simp) (by simp) (by simp) (.bool s7) (.slice m7 n7 c7) (.bool t7) (.slice o7 p7 d7))) (HF.out.2.2.2.2.2.2.2.2.2.keep (R0.out.keeps (by simp) (by simp) (by simp) (by simp) (.bool s7) (.slice m7 n7 c7) (.bool t7) (.slice o7 p7 d7))))))))))))
      replace R1 := hide (R1.out.other4 (C := (w.heap.size + 1 + 1 + 1)) (by have hx := LTS.out; omega) (.bool s7) (.slice m7 n7 c7) (.bool t7) (.slice o7 p7 d7))
      replace R2 := hide (R2.out.other4 (C := (w.heap.size + 1 + 1 + 1)) (by have hx := LTS.out; omega) (.bool s7) (.slice m7 n7 c7) (.bool t7) (.slice o7 p7 d7))
      replace R0 := hide (R0.out.put (.bool s7) (.slice m7 n7 c7) (.bool t7) (.slice o7 p7 d7))
      refine hK _ _ (fun _ => HF'.out) ?_
      clear hK K HF hc0 hf0 hc1 hf1 hc2 hf2 hc3 hf3
      have HF := hide HF'.out
      clear HF'
      generalize ((((u3ad.setCell ⟨(w.heap.size + 1 + 1 + 1), 0, none⟩ (.bool s7)).setCell ⟨(w.heap.size + 1 + 1 + 1), 1, none⟩ (.slice m7 n7 c7)).setCell ⟨(w.heap.size + 1 + 1 + 1), 2, none⟩ (.bool t7)).setCell ⟨(w.heap.size + 1 + 1 + 1), 3, none⟩ (.slice o7 p7 d7)) = ws0 at *
      refine Calm.one (i := 19) (l' := #[true, true, true, true, true, true, true, true, true, true, true, true, true, true, true, true, true, true, true, true, false, false]) (by kernel_rfl) rfl rfl rfl fun K hK => ?_
      have hc0 := R1.out.cell0
      have hc1 := R1.out.cell1
      have hc2 := R1.out.cell2
      have hc3 := R1.out.cell3
      have hf0 := R1.out.free 0
      have hf1 := R1.out.free 1
      have hf2 := R1.out.free 2
      have hf3 := R1.out.free 3
      go_simp
      have HF' := hide (And.intro (below_put4 HF.out.1 (show w.heap.size ≤ (w.heap.size + 1 + 1 + 1 + 1) by have hx := LTS.out; omega) (.bool s8) (.slice m8 n8 c8) (.bool t8) (.slice o8 p8 d8)) (And.intro (HF.out.2.1.other4 (C := (w.heap.size + 1 + 1 + 1 + 1)) (by have hx := LTS.out; omega) (.bool s8) (.slice m8 n8 c8) (.bool t8) (.slice o8 p8 d8)) (And.intro (HF.out.2.2.1.other4 (C := (w.heap.size + 1 + 1 + 1 + 1)) (by have hx := LTS.out; omega) (.bool s8) (.slice m8 n8 c8) (.bool t8) (.slice o8 p8 d8)) (And.intro (HF.out.2.2.2.1.other4 (C := (w.heap.size + 1 + 1 + 1 + 1)) (by have hx := LTS.out; omega) (.bool s8) (.slice m8 n8 c8) (.bool t8) (.slice o8 p8 d8)) (And.intro (HF.out.2.2.2.2.1.other4 (C := (w.heap.size + 1 + 1 + 1 + 1)) (by have hx := LTS.out; omega) (.bool s8) (.slice m8 n8 c8) (.bool t8) (.slice o8 p8 d8)) (And.intro (HF.out.2.2.2.2.2.1.other4 (C := (w.heap.size + 1 + 1 + 1 + 1)) (by have hx := LTS.out; omega) (.bool s8) (.slice m8 n8 c8) (.bool t8) (.slice o8 p8 d8)) (And.intro (HF.out.2.2.2.2.2.2.1.other4 (C := (w.heap.size + 1 + 1 + 1 + 1)) (by have hx := LTS.out; omega) (.bool s8) (.slice m8 n8 c8) (.bool t8) (.slice o8 p8 d8)) (And.intro (HF.out.2.2.2.2.2.2.2.1.keep (R1.out.keeps (by simp) (by simp) (by simp) (by simp) (.bool s8) (.slice m8 n8 c8) (.bool t8) (.slice o8 p8 d8))) (And.intro (HF.out.2.2.2.2.2.2.2.2.1.keep (R1.out.keeps (by simp) (by simp) (by simp) (by simp) (.bool s8) (.slice m8 n8 c8) (.bool t8) (.slice o8 p8 d8))) (HF.out.2.2.2.2.2.2.2.2.2.keep (R1.out.keeps (by simp) (by simp) (by simp) (by simp) (.bool s8) (.slice m8 n8 c8) (.bool t8) (.slice o8 p8 d8))))))))))))
      replace R0 := hide (R0.out.other4 (C := (w.heap.size + 1 + 1 + 1 + 1)) (by have hx := LTS.out; omega) (.bool s8) (.slice m8 n8 c8) (.bool t8) (.slice o8 p8 d8))
      replace R2 := hide (R2.out.other4 (C := (w.heap.size + 1 + 1 + 1 + 1)) (by have hx := LTS.out; omega) (.bool s8) (.slice m8 n8 c8) (.bool t8) (.slice o8 p8 d8))
      replace R1 := hide (R1.out.put (.bool s8) (.slice m8 n8 c8) (.bool t8) (.slice o8 p8 d8))
      refine hK _ _ (fun _ => HF'.out) ?_
      clear hK K HF hc0 hf0 hc1 hf1 hc2 hf2 hc3 hf3
      have HF := hide HF'.out
      clear HF'
      generalize ((((ws0.setCell ⟨(w.heap.size + 1 + 1 + 1 + 1), 0, none⟩ (.bool s8)).setCell ⟨(w.heap.size + 1 + 1 + 1 + 1), 1, none⟩ (.slice m8 n8 c8)).setCell ⟨(w.heap.size + 1 + 1 + 1 + 1), 2, none⟩ (.bool t8)).setCell ⟨(w.heap.size + 1 + 1 + 1 + 1), 3, none⟩ (.slice o8 p8 d8)) = ws1 at *
      refine Calm.one (i := 20) (l' := #[true, true, true, true, true, true, true, true, true, true, true, true, true, true, true, true, true, true, true, true, true, false]) (by kernel_rfl) rfl rfl rfl fun K hK => ?_
      have hc0 := R2.out.cell0
      have hc1 := R2.out.cell1
      have hc2 := R2.out.cell2
      have hc3 := R2.out.cell3
      have hf0 := R2.out.free 0
      have hf1 := R2.out.free 1
      have hf2 := R2.out.free 2
      have hf3 := R2.out.free 3
      go_simp
      have HF' := hide (And.intro (below_put4 HF.out.1 (show w.heap.size ≤ (w.heap.size + 1 + 1 + 1 + 1 + 1) by have hx := LTS.out; omega) (.bool s9) (.slice m9 n9 c9) (.bool t9) (.slice o9 p9 d9)) (And.intro (HF.out.2.1.other4 (C := (w.heap.size + 1 + 1 + 1 + 1 + 1)) (by have hx := LTS.out; omega) (.bool s9) (.slice m9 n9 c9) (.bool t9) (.slice o9 p9 d9)) (And.intro (HF.out.2.2.1.other4 (C := (w.heap.size + 1 + 1 + 1 + 1 + 1)) (by have hx := LTS.out; omega) (.bool s9) (.slice m9 n9 c9) (.bool t9) (.slice o9 p9 d9)) (And.intro (HF.out.2.2.2.1.other4 (C := (w.heap.size + 1 + 1 + 1 + 1 + 1)) (by have hx := LTS.out; omega) (.bool s9) (.slice m9 n9 c9) (.bool t9) (.slice o9 p9 d9)) (And.intro (HF.out.2.2.2.2.1.other4 (C := (w.heap.size + 1 + 1 + 1 + 1 + 1)) (by have hx := LTS.out; omega) (.bool s9) (.slice m9 n9 c9) (.bool t9) (.slice o9 p9 d9)) (And.intro (HF.out.2.2.2.2.2.1.other4 (C := (w.heap.size + 1 + 1 + 1 + 1 + 1)) (by have hx := LTS.out; omega) (.bool s9) (.slice m9 n9 c9) (.bool t9) (.slice o9 p9 d9)) (And.intro (HF.out.2.2.2.2.2.2.1.other4 (C := (w.heap.size + 1 + 1 + 1 + 1 + 1)) (by have hx := LTS.out; omega) (.bool s9) (.slice m9 n9 c9) (.bool t9) (.slice o9 p9 d9)) (And.intro (HF.out.2.2.2.2.2.2.2.1.keep (R2.out.keeps (by simp) (by simp) (by simp) (by simp) (.bool s9) (.slice m9 n9 c9) (.bool t9) (.slice o9 p9 d9))) (And.intro (HF.out.2.2.2.2.2.2.2.2.1.keep (R2.out.keeps (by simp) (by simp) (by simp) (by simp) (.bool s9) (.slice m9 n9 c9) (.bool t9) (.slice o9 p9 d9))) (HF.out.2.2.2.2.2.2.2.2.2.keep (R2.out.keeps (by simp) (by simp) (by simp) (by simp) (.bool s9) (.slice m9 n9 c9) (.bool t9) (.slice o9 p9 d9))))))))))))
      replace R0 := hide (R0.out.other4 (C := (w.heap.size + 1 + 1 + 1 + 1 + 1)) (by have hx := LTS.out; omega) (.bool s9) (.slice m9 n9 c9) (.bool t9) (.slice o9 p9 d9))
      replace R1 := hide (R1.out.other4 (C := (w.heap.size + 1 + 1 + 1 + 1 + 1)) (by have hx := LTS.out; omega) (.bool s9) (.slice m9 n9 c9) (.bool t9) (.slice o9 p9 d9))
      replace R2 := hide (R2.out.put (.bool s9) (.slice m9 n9 c9) (.bool t9) (.slice o9 p9 d9))
      refine hK _ _ (fun _ => HF'.out) ?_
      clear hK K HF hc0 hf0 hc1 hf1 hc2 hf2 hc3 hf3
      have HF := hide HF'.out
      clear HF'
      generalize ((((ws1.setCell ⟨(w.heap.size + 1 + 1 + 1 + 1 + 1), 0, none⟩ (.bool s9)).setCell ⟨(w.heap.size + 1 + 1 + 1 + 1 + 1), 1, none⟩ (.slice m9 n9 c9)).setCell ⟨(w.heap.size + 1 + 1 + 1 + 1 + 1), 2, none⟩ (.bool t9)).setCell ⟨(w.heap.size + 1 + 1 + 1 + 1 + 1), 3, none⟩ (.slice o9 p9 d9)) = ws2 at *
      refine Calm.take (i := 21) (v := ?_) (a' := ?_) (l' := #[true, true, true, true, true, true, true, true, true, true, true, true, true, true, true, true, true, true, true, true, true, true]) (d := some 9) rfl (by kernel_rfl) (by kernel_rfl) (by kernel_rfl) (by kernel_rfl) (fun _ _ _ h => h) HF.out rfl ?_ rfl rfl ?_ ?_
      rotate_left
      · intro w' hF; clear hF; go_simp; try rfl
      rotate_left
      · simp only [Act.put]; exact rfl
      refine Calm.done (by kernel_rfl) ?_
      replace HB := hide HF.out.1
      replace P0 := hide HF.out.2.1
      replace P1 := hide HF.out.2.2.1
      replace P2 := hide HF.out.2.2.2.1
      replace V0 := hide HF.out.2.2.2.2.1
      replace V1 := hide HF.out.2.2.2.2.2.1
      replace V2 := hide HF.out.2.2.2.2.2.2.1
      replace I0 := hide HF.out.2.2.2.2.2.2.2.1
      replace I1 := hide HF.out.2.2.2.2.2.2.2.2.1
      replace I2 := hide HF.out.2.2.2.2.2.2.2.2.2
      clear HF
      refine (by assumption : ∀ (a : Act) (w : World), Code.wp Try.prog Code.ret _ a w → _) _ _ ?_
      refine wp_ret ?_
      refine ret_three rfl (w.heap.size + 1 + 1 + 1) (w.heap.size + 1 + 1 + 1 + 1) (w.heap.size + 1 + 1 + 1 + 1 + 1) _ _ _ _ _ _ _ _ _ _ _ _ false (by kernel_rfl) (by kernel_rfl) (by kernel_rfl) (by kernel_rfl) R0.out R1.out R2.out rfl ?_
      exact ⟨⟨_, _, _, x, y, z, false, rfl, I0.out, I1.out, I2.out, Z0.out, Z1.out, Z2.out⟩, HB.out⟩
    | true =>
      cases k2 with
      | false =>
        replace R0 := hide R0.out.drew
        replace R1 := hide R1.out.drew
        replace R2 := hide R2.out.drew
        refine wp_calm (fun w' => Below w.heap.size w w' ∧ BoxF w' w.heap.size (.string b0) (.string b1) ∧ BoxF w' (w.heap.size + 1) (.string b2) (.string b3) ∧ BoxF w' (w.heap.size + 1 + 1) (.string b4) (.string b5) ∧ Box4 w' ga (.bool s7) (.slice m7 n7 c7) (.bool t7) (.slice o7 p7 d7) ∧ Box4 w' gb (.bool s8) (.slice m8 n8 c8) (.bool t8) (.slice o8 p8 d8) ∧ Box4 w' gc (.bool s9) (.slice m9 n9 c9) (.bool t9) (.slice o9 p9 d9) ∧ RatAt w' (.agg #[.bool s7, .slice m7 n7 c7, .bool t7, .slice o7 p7 d7]) x ∧ RatAt w' (.agg #[.bool s8, .slice m8 n8 c8, .bool t8, .slice o8 p8 d8]) y ∧ RatAt w' (.agg #[.bool s9, .slice m9 n9 c9, .bool t9, .slice o9 p9 d9]) z) (fun _ => true) 22 #[false, false, false, false, false, false, false, false, false, false, false, false, false, false, false, false, false, false, false, false, false, false] (by kernel_rfl) rfl rfl ?_
        have HF := hide (And.intro (HB.out.drew) (And.intro (P0.out.drew) (And.intro (P1.out.drew) (And.intro (P2.out.drew) (And.intro (V0.out.drew) (And.intro (V1.out.drew) (And.intro (V2.out.drew) (And.intro (I0.out.drew) (And.intro (I1.out.drew) (I2.out.drew))))))))))
        generalize u3a.drew = u3ad at *
        refine Calm.take (i := 0) (v := ?_) (a' := ?_) (l' := #[true, false, false, false, false, false, false, false, false, false, false, false, false, false, false, false, false, false, false, false, false, false]) (d := some 31) rfl (by kernel_rfl) (by kernel_rfl) (by kernel_rfl) (by kernel_rfl) (fun _ _ _ h => h) HF.out rfl ?_ rfl rfl ?_ ?_
        rotate_left
        · intro w' hF; have f10 := hF.2.1.cell0; have f11 := hF.2.1.cell1; have f20 := hF.2.2.1.cell0; have f21 := hF.2.2.1.cell1; have f30 := hF.2.2.2.1.cell0; have f31 := hF.2.2.2.1.cell1; have f40 := hF.2.2.2.2.1.cell0; have f41 := hF.2.2.2.2.1.cell1; have f42 := hF.2.2.2.2.1.cell2; have f43 := hF.2.2.2.2.1.cell3; have f50 := hF.2.2.2.2.2.1.cell0; have f51 := hF.2.2.2.2.2.1.cell1; have f52 := hF.2.2.2.2.2.1.cell2; have f53 := hF.2.2.2.2.2.1.cell3; have f60 := hF.2.2.2.2.2.2.1.cell0; have f61 := hF.2.2.2.2.2.2.1.cell1; have f62 := hF.2.2.2.2.2.2.1.cell2; have f63 := hF.2.2.2.2.2.2.1.cell3; clear hF; go_simp; try rfl
        rotate_left
        · simp only [Act.put]; exact rfl
        refine Calm.take (i := 1) (v := ?_) (a' := ?_) (l' := #[true, true, false, false, false, false, false, false, false, false, false, false, false, false, false, false, false, false, false, false, false, false]) (d := some 32) rfl (by kernel_rfl) (by kernel_rfl) (by kernel_rfl) (by kernel_rfl) (fun _ _ _ h => h) HF.out rfl ?_ rfl rfl ?_ ?_
        rotate_left
        · intro w' hF; have f10 := hF.2.1.cell0; have f11 := hF.2.1.cell1; have f20 := hF.2.2.1.cell0; have f21 := hF.2.2.1.cell1; have f30 := hF.2.2.2.1.cell0; have f31 := hF.2.2.2.1.cell1; have f40 := hF.2.2.2.2.1.cell0; have f41 := hF.2.2.2.2.1.cell1; have f42 := hF.2.2.2.2.1.cell2; have f43 := hF.2.2.2.2.1.cell3; have f50 := hF.2.2.2.2.2.1.cell0; have f51 := hF.2.2.2.2.2.1.cell1; have f52 := hF.2.2.2.2.2.1.cell2; have f53 := hF.2.2.2.2.2.1.cell3; have f60 := hF.2.2.2.2.2.2.1.cell0; have f61 := hF.2.2.2.2.2.2.1.cell1; have f62 := hF.2.2.2.2.2.2.1.cell2; have f63 := hF.2.2.2.2.2.2.1.cell3; clear hF; go_simp; try rfl
        rotate_left
        · simp only [Act.put]; exact rfl
        refine Calm.take (i := 2) (v := ?_) (a' := ?_) (l' := #[true, true, true, false, false, false, false, false, false, false, false, false, false, false, false, false, false, false, false, false, false, false]) (d := some 33) rfl (by kernel_rfl) (by kernel_rfl) (by kernel_rfl) (by kernel_rfl) (fun _ _ _ h => h) HF.out rfl ?_ rfl rfl ?_ ?_
        rotate_left
        · intro w' hF; have f10 := hF.2.1.cell0; have f11 := hF.2.1.cell1; have f20 := hF.2.2.1.cell0; have f21 := hF.2.2.1.cell1; have f30 := hF.2.2.2.1.cell0; have f31 := hF.2.2.2.1.cell1; have f40 := hF.2.2.2.2.1.cell0; have f41 := hF.2.2.2.2.1.cell1; have f42 := hF.2.2.2.2.1.cell2; have f43 := hF.2.2.2.2.1.cell3; have f50 := hF.2.2.2.2.2.1.cell0; have f51 := hF.2.2.2.2.2.1.cell1; have f52 := hF.2.2.2.2.2.1.cell2; have f53 := hF.2.2.2.2.2.1.cell3; have f60 := hF.2.2.2.2.2.2.1.cell0; have f61 := hF.2.2.2.2.2.2.1.cell1; have f62 := hF.2.2.2.2.2.2.1.cell2; have f63 := hF.2.2.2.2.2.2.1.cell3; clear hF; go_simp; try rfl
        rotate_left
        · simp only [Act.put]; exact rfl
        refine Calm.take (i := 3) (v := ?_) (a' := ?_) (l' := #[true, true, true, true, false, false, false, false, false, false, false, false, false, false, false, false, false, false, false, false, false, false]) (d := some 34) rfl (by kernel_rfl) (by kernel_rfl) (by kernel_rfl) (by kernel_rfl) (fun _ _ _ h => h) HF.out rfl ?_ rfl rfl ?_ ?_
        rotate_left
        · intro w' hF; clear hF; go_simp; try rfl
        rotate_left
        · simp only [Act.put]; exact rfl
        refine Calm.take (i := 4) (v := ?_) (a' := ?_) (l' := #[true, true, true, true, true, false, false, false, false, false, false, false, false, false, false, false, false, false, false, false, false, false]) (d := some 35) rfl (by kernel_rfl) (by kernel_rfl) (by kernel_rfl) (by kernel_rfl) (fun _ _ _ h => h) HF.out rfl ?_ rfl rfl ?_ ?_
        rotate_left
        · intro w' hF; clear hF; go_simp; try rfl
        rotate_left
        · simp only [Act.put]; exact rfl
        refine Calm.take (i := 5) (v := ?_) (a' := ?_) (l' := #[true, true, true, true, true, true, false, false, false, false, false, false, false, false, false, false, false, false, false, false, false, false]) (d := some 36) rfl (by kernel_rfl) (by kernel_rfl) (by kernel_rfl) (by kernel_rfl) (fun _ _ _ h => h) HF.out (by kernel_rfl) ?_ rfl rfl ?_ ?_
        rotate_left
        · intro w' hF; clear hF; go_simp; try rfl
        rotate_left
        · simp only [Act.put]; exact rfl
        refine Calm.take (i := 6) (v := ?_) (a' := ?_) (l' := #[true, true, true, true, true, true, true, false, false, false, false, false, false, false, false, false, false, false, false, false, false, false]) (d := some 37) rfl (by kernel_rfl) (by kernel_rfl) (by kernel_rfl) (by kernel_rfl) (fun _ _ _ h => h) HF.out rfl ?_ rfl rfl ?_ ?_
        rotate_left
        · intro w' hF; clear hF; go_simp; try rfl
        rotate_left
        · simp only [Act.put]; exact rfl
        refine Calm.take (i := 7) (v := ?_) (a' := ?_) (l' := #[true, true, true, true, true, true, true, true, false, false, false, false, false, false, false, false, false, false, false, false, false, false]) (d := some 38) rfl (by kernel_rfl) (by kernel_rfl) (by kernel_rfl) (by kernel_rfl) (fun _ _ _ h => h) HF.out rfl ?_ rfl rfl ?_ ?_
        rotate_left
        · intro w' hF; clear hF; go_simp; try rfl
        rotate_left
        · simp only [Act.put]; exact rfl
        refine Calm.take (i := 8) (v := ?_) (a' := ?_) (l' := #[true, true, true, true, true, true, true, true, true, false, false, false, false, false, false, false, false, false, false, false, false, false]) (d := some 39) rfl (by kernel_rfl) (by kernel_rfl) (by kernel_rfl) (by kernel_rfl) (fun _ _ _ h => h) HF.out (by kernel_rfl) ?_ rfl rfl ?_ ?_
        rotate_left
        · intro w' hF; clear hF; go_simp; try rfl
        rotate_left
        · simp only [Act.put]; exact rfl
        refine Calm.take (i := 9) (v := ?_) (a' := ?_) (l' := #[true, true, true, true, true, true, true, true, true, true, false, false, false, false, false, false, false, false, false, false, false, false]) (d := some 40) rfl (by kernel_rfl) (by kernel_rfl) (by kernel_rfl) (by kernel_rfl) (fun _ _ _ h => h) HF.out rfl ?_ rfl rfl ?_ ?_
        rotate_left
        · intro w' hF; clear hF; go_simp; try rfl
        rotate_left
        · simp only [Act.put]; exact rfl
        refine Calm.take (i := 10) (v := ?_) (a' := ?_) (l' := #[true, true, true, true, true, true, true, true, true, true, true, false, false, false, false, false, false, false, false, false, false, false]) (d := some 41) rfl (by kernel_rfl) (by kernel_rfl) (by kernel_rfl) (by kernel_rfl) (fun _ _ _ h => h) HF.out rfl ?_ rfl rfl ?_ ?_
        rotate_left
        · intro w' hF; clear hF; go_simp; try rfl
        rotate_left
        · simp only [Act.put]; exact rfl
        refine Calm.skip3 (i := 11) (a' := ?_) (l' := #[true, true, true, true, true, true, true, true, true, true, true, true, false, false, false, false, false, false, false, false, false, false]) (d := some 42) rfl (by kernel_rfl) (by kernel_rfl) (by kernel_rfl) (by kernel_rfl) (fun _ _ _ h => h) HF.out (by kernel_rfl) rfl rfl ?_ ?_
        rotate_left
        · simp only [Act.put]; exact rfl
        refine Calm.skip3 (i := 12) (a' := ?_) (l' := #[true, true, true, true, true, true, true, true, true, true, true, true, true, false, false, false, false, false, false, false, false, false]) (d := some 43) rfl (by kernel_rfl) (by kernel_rfl) (by kernel_rfl) (by kernel_rfl) (fun _ _ _ h => h) HF.out (by kernel_rfl) rfl rfl ?_ ?_
        rotate_left
        · simp only [Act.put]; exact rfl
        refine Calm.skip3 (i := 13) (a' := ?_) (l' := #[true, true, true, true, true, true, true, true, true, true, true, true, true, true, false, false, false, false, false, false, false, false]) (d := some 44) rfl (by kernel_rfl) (by kernel_rfl) (by kernel_rfl) (by kernel_rfl) (fun _ _ _ h => h) HF.out (by kernel_rfl) rfl rfl ?_ ?_
        rotate_left
        · simp only [Act.put]; exact rfl
        refine Calm.skip3 (i := 14) (a' := ?_) (l' := #[true, true, true, true, true, true, true, true, true, true, true, true, true, true, true, false, false, false, false, false, false, false]) (d := some 45) rfl (by kernel_rfl) (by kernel_rfl) (by kernel_rfl) (by kernel_rfl) (fun _ _ _ h => h) HF.out (by kernel_rfl) rfl rfl ?_ ?_
        rotate_left
        · simp only [Act.put]; exact rfl
        refine Calm.skip3 (i := 15) (a' := ?_) (l' := #[true, true, true, true, true, true, true, true, true, true, true, true, true, true, true, true, false, false, false, false, false, false]) (d := some 46) rfl (by kernel_rfl) (by kernel_rfl) (by kernel_rfl) (by kernel_rfl) (fun _ _ _ h => h) HF.out (by kernel_rfl) rfl rfl ?_ ?_
        rotate_left
        · simp only [Act.put]; exact rfl
        refine Calm.skip3 (i := 16) (a' := ?_) (l' := #[true, true, true, true, true, true, true, true, true, true, true, true, true, true, true, true, true, false, false, false, false, false]) (d := some 47) rfl (by kernel_rfl) (by kernel_rfl) (by kernel_rfl) (by kernel_rfl) (fun _ _ _ h => h) HF.out (by kernel_rfl) rfl rfl ?_ ?_
        rotate_left
        · simp only [Act.put]; exact rfl
        refine Calm.take (i := 17) (v := ?_) (a' := ?_) (l' := #[true, true, true, true, true, true, true, true, true, true, true, true, true, true, true, true, true, true, false, false, false, false]) (d := some 48) rfl (by kernel_rfl) (by kernel_rfl) (by kernel_rfl) (by kernel_rfl) (fun _ _ _ h => h) HF.out rfl ?_ rfl rfl ?_ ?_
        rotate_left
        · intro w' hF; clear hF; go_simp; try rfl
        rotate_left
        · simp only [Act.put]; exact rfl
        refine Calm.one (i := 18) (l' := #[true, true, true, true, true, true, true, true, true, true, true, true, true, true, true, true, true, true, true, false, false, false]) (by kernel_rfl) rfl rfl rfl fun K hK => ?_
        have hc0 := R0.out.cell0
        have hc1 := R0.out.cell1
        have hc2 := R0.out.cell2
        have hc3 := R0.out.cell3
        have hf0 := R0.out.free 0
        have hf1 := R0.out.free 1
        have hf2 := R0.out.free 2
        have hf3 := R0.out.free 3
        go_simp
        have HF' := hide (And.intro (below_put4 HF.out.1 (show w.heap.size ≤ (w.heap.size + 1 + 1 + 1) by have hx := LTS.out; omega) (.bool s7) (.slice m7 n7 c7) (.bool t7) (.slice o7 p7 d7)) (And.intro (HF.out.2.1.other4 (C := (w.heap.size + 1 + 1 + 1)) (by have hx := LTS.out; omega) (.bool s7) (.slice m7 n7 c7) (.bool t7) (.slice o7 p7 d7)) (And.intro (HF.out.2.2.1.other4 (C := (w.heap.size + 1 + 1 + 1)) (by have hx := LTS.out; omega) (.bool s7) (.slice m7 n7 c7) (.bool t7) (.slice o7 p7 d7)) (And.intro (HF.out.2.2.2.1.other4 (C := (w.heap.size + 1 + 1 + 1)) (by have hx := LTS.out; omega) (.bool s7) (.slice m7 n7 c7) (.bool t7) (.slice o7 p7 d7)) (And.intro (HF.out.2.2.2.2.1.other4 (C := (w.heap.size + 1 + 1 + 1)) (by have hx := LTS.out; omega) (.bool s7) (.slice m7 n7 c7) (.bool t7) (.slice o7 p7 d7)) (And.intro (HF.out.2.2.2.2.2.1.other4 (C := (w.heap.size + 1 + 1 + 1)) (by have hx := LTS.out; omega) (.bool s7) (.slice m7 n7 c7) (.bool t7) (.slice o7 p7 d7)) (And.intro (HF.out.2.2.2.2.2.2.1.other4 (C := (w.heap.size + 1 + 1 + 1)) (by have hx := LTS.out; omega) (.bool s7) (.slice m7 n7 c7) (.bool t7) (.slice o7 p7 d7)) (And.intro (HF.out.2.2.2.2.2.2.2.1.keep (R0.out.keeps (by simp) (by simp) (by simp) (by simp) (.bool s7) (.slice m7 n7 c7) (.bool t7) (.slice o7 p7 d7))) (And.intro (HF.out.2.2.2.2.2.2.2.2.1.keep (R0.out.keeps (by simp) (by simp) (by simp) (by simp) (.bool s7) (.slice m7 n7 c7) (.bool t7) (.slice o7 p7 d7))) (HF.out.2.2.2.2.2.2.2.2.2.keep (R0.out.keeps (by simp) (by simp) (by simp) (by simp) (.bool s7) (.slice m7 n7 c7) (.bool t7) (.slice o7 p7 d7))))))))))))
        replace R1 := hide (R1.out.other4 (C := (w.heap.size + 1 + 1 + 1)) (by have hx := LTS.out; omega) (.bool s7) (.slice m7 n7 c7) (.bool t7) (.slice o7 p7 d7))
        replace R2 := hide (R2.out.other4 (C := (w.heap.size + 1 + 1 + 1)) (by have hx := LTS.out; omega) (.bool s7) (.slice m7 n7 c7) (.bool t7) (.slice o7 p7 d7))
        replace R0 := hide (R0.out.put (.bool s7) (.slice m7 n7 c7) (.bool t7) (.slice o7 p7 d7))
        refine hK _ _ (fun _ => HF'.out) ?_
        clear hK K HF hc0 hf0 hc1 hf1 hc2 hf2 hc3 hf3
        have HF := hide HF'.out
        clear HF'
        generalize ((((u3ad.setCell ⟨(w.heap.size + 1 + 1 + 1), 0, none⟩ (.bool s7)).setCell ⟨(w.heap.size + 1 + 1 + 1), 1, none⟩ (.slice m7 n7 c7)).setCell ⟨(w.heap.size + 1 + 1 + 1), 2, none⟩ (.bool t7)).setCell ⟨(w.heap.size + 1 + 1 + 1), 3, none⟩ (.slice o7 p7 d7)) = ws0 at *
        refine Calm.one (i := 19) (l' := #[true, true, true, true, true, true, true, true, true, true, true, true, true, true, true, true, true, true, true, true, false, false]) (by kernel_rfl) rfl rfl rfl fun K hK => ?_
        have hc0 := R1.out.cell0
        have hc1 := R1.out.cell1
        have hc2 := R1.out.cell2
        have hc3 := R1.out.cell3
        have hf0 := R1.out.free 0
        have hf1 := R1.out.free 1
        have hf2 := R1.out.free 2
        have hf3 := R1.out.free 3
        go_simp
        have HF' := hide (And.intro (below_put4 HF.out.1 (show w.heap.size ≤ (w.heap.size + 1 + 1 + 1 + 1) by have hx := LTS.out; omega) (.bool s8) (.slice m8 n8 c8) (.bool t8) (.slice o8 p8 d8)) (And.intro (HF.out.2.1.other4 (C := (w.heap.size + 1 + 1 + 1 + 1)) (by have hx := LTS.out; omega) (.bool s8) (.slice m8 n8 c8) (.bool t8) (.slice o8 p8 d8)) (And.intro (HF.out.2.2.1.other4 (C := (w.heap.size + 1 + 1 + 1 + 1)) (by have hx := LTS.out; omega) (.bool s8) (.slice m8 n8 c8) (.bool t8) (.slice o8 p8 d8)) (And.intro (HF.out.2.2.2.1.other4 (C := (w.heap.size + 1 + 1 + 1 + 1)) (by have hx := LTS.out; omega) (.bool s8) (.slice m8 n8 c8) (.bool t8) (.slice o8 p8 d8)) (And.intro (HF.out.2.2.2.2.1.other4 (C := (w.heap.size + 1 + 1 + 1 + 1)) (by have hx := LTS.out; omega) (.bool s8) (.slice m8 n8 c8) (.bool t8) (.slice o8 p8 d8)) (And.intro (HF.out.2.2.2.2.2.1.other4 (C := (w.heap.size + 1 + 1 + 1 + 1)) (by have hx := LTS.out; omega) (.bool s8) (.slice m8 n8 c8) (.bool t8) (.slice o8 p8 d8)) (And.intro (HF.out.2.2.2.2.2.2.1.other4 (C := (w.heap.size + 1 + 1 + 1 + 1)) (by have hx := LTS.out; omega) (.bool s8) (.slice m8 n8 c8) (.bool t8) (.slice o8 p8 d8)) (And.intro (HF.out.2.2.2.2.2.2.2.1.keep (R1.out.keeps (by simp) (by simp) (by simp) (by simp) (.bool s8) (.slice m8 n8 c8) (.bool t8) (.slice o8 p8 d8))) (And.intro (HF.out.2.2.2.2.2.2.2.2.1.keep (R1.out.keeps (by simp) (by simp) (by simp) (by simp) (.bool s8) (.slice m8 n8 c8) (.bool t8) (.slice o8 p8 d8))) (HF.out.2.2.2.2.2.2.2.2.2.keep (R1.out.keeps (by simp) (by simp) (by simp) (by simp) (.bool s8) (.slice m8 n8 c8) (.bool t8) (.slice o8 p8 d8))))))))))))
        replace R0 := hide (R0.out.other4 (C := (w.heap.size + 1 + 1 + 1 + 1)) (by have hx := LTS.out; omega) (.bool s8) (.slice m8 n8 c8) (.bool t8) (.slice o8 p8 d8))
        replace R2 := hide (R2.out.other4 (C := (w.heap.size + 1 + 1 + 1 + 1)) (by have hx := LTS.out; omega) (.bool s8) (.slice m8 n8 c8) (.bool t8) (.slice o8 p8 d8))
        replace R1 := hide (R1.out.put (.bool s8) (.slice m8 n8 c8) (.bool t8) (.slice o8 p8 d8))
        refine hK _ _ (fun _ => HF'.out) ?_
        clear hK K HF hc0 hf0 hc1 hf1 hc2 hf2 hc3 hf3
        have HF := hide HF'.out
        clear HF'
        generalize ((((ws0.setCell ⟨(w.heap.size + 1 + 1 + 1 + 1), 0, none⟩ (.bool s8)).setCell ⟨(w.heap.size + 1 + 1 + 1 + 1), 1, none⟩ (.slice m8 n8 c8)).setCell ⟨(w.heap.size + 1 + 1 + 1 + 1), 2, none⟩ (.bool t8)).setCell ⟨(w.heap.size + 1 + 1 + 1 + 1), 3, none⟩ (.slice o8 p8 d8)) = ws1 at *
        refine Calm.one (i := 20) (l' := #[true, true, true, true, true, true, true, true, true, true, true, true, true, true, true, true, true, true, true, true, true, false]) (by kernel_rfl) rfl rfl rfl fun K hK => ?_
        have hc0 := R2.out.cell0
        have hc1 := R2.out.cell1
        have hc2 := R2.out.cell2
        have hc3 := R2.out.cell3
        have hf0 := R2.out.free 0
        have hf1 := R2.out.free 1
        have hf2 := R2.out.free 2
        have hf3 := R2.out.free 3
        go_simp
        have HF' := hide (And.intro (below_put4 HF.out.1 (show w.heap.size ≤ (w.heap.size + 1 + 1 + 1 + 1 + 1) by have hx := LTS.out; omega) (.bool s9) (.slice m9 n9 c9) (.bool t9) (.slice o9 p9 d9)) (And.intro (HF.out.2.1.other4 (C := (w.heap.size + 1 + 1 + 1 + 1 + 1)) (by have hx := LTS.out; omega) (.bool s9) (.slice m9 n9 c9) (.bool t9) (.slice o9 p9 d9)) (And.intro (HF.out.2.2.1.other4 (C := (w.heap.size + 1 + 1 + 1 + 1 + 1)) (by have hx := LTS.out; omega) (.bool s9) (.slice m9 n9 c9) (.bool t9) (.slice o9 p9 d9)) (And.intro (HF.out.2.2.2.1.other4 (C := (w.heap.size + 1 + 1 + 1 + 1 + 1)) (by have hx := LTS.out; omega) (.bool s9) (.slice m9 n9 c9) (.bool t9) (.slice o9 p9 d9)) (And.intro (HF.out.2.2.2.2.1.other4 (C := (w.heap.size + 1 + 1 + 1 + 1 + 1)) (by have hx := LTS.out; omega) (.bool s9) (.slice m9 n9 c9) (.bool t9) (.slice o9 p9 d9)) (And.intro (HF.out.2.2.2.2.2.1.other4 (C := (w.heap.size + 1 + 1 + 1 + 1 + 1)) (by have hx := LTS.out; omega) (.bool s9) (.slice m9 n9 c9) (.bool t9) (.slice o9 p9 d9)) (And.intro (HF.out.2.2.2.2.2.2.1.other4 (C := (w.heap.size + 1 + 1 + 1 + 1 + 1)) (by have hx := LTS.out; omega) (.bool s9) (.slice m9 n9 c9) (.bool t9) (.slice o9 p9 d9)) (And.intro (HF.out.2.2.2.2.2.2.2.1.keep (R2.out.keeps (by simp) (by simp) (by simp) (by simp) (.bool s9) (.slice m9 n9 c9) (.bool t9) (.slice o9 p9 d9))) (And.intro (HF.out.2.2.2.2.2.2.2.2.1.keep (R2.out.keeps (by simp) (by simp) (by simp) (by simp) (.bool s9) (.slice m9 n9 c9) (.bool t9) (.slice o9 p9 d9))) (HF.out.2.2.2.2.2.2.2.2.2.keep (R2.out.keeps (by simp) (by simp) (by simp) (by simp) (.bool s9) (.slice m9 n9 c9) (.bool t9) (.slice o9 p9 d9))))))))))))
        replace R0 := hide (R0.out.other4 (C := (w.heap.size + 1 + 1 + 1 + 1 + 1)) (by have hx := LTS.out; omega) (.bool s9) (.slice m9 n9 c9) (.bool t9) (.slice o9 p9 d9))
        replace R1 := hide (R1.out.other4 (C := (w.heap.size + 1 + 1 + 1 + 1 + 1)) (by have hx := LTS.out; omega) (.bool s9) (.slice m9 n9 c9) (.bool t9) (.slice o9 p9 d9))
        replace R2 := hide (R2.out.put (.bool s9) (.slice m9 n9 c9) (.bool t9) (.slice o9 p9 d9))
        refine hK _ _ (fun _ => HF'.out) ?_
        clear hK K HF hc0 hf0 hc1 hf1 hc2 hf2 hc3 hf3
        have HF := hide HF'.out
        clear HF'
        generalize ((((ws1.setCell ⟨(w.heap.size + 1 + 1 + 1 + 1 + 1), 0, none⟩ (.bool s9)).setCell ⟨(w.heap.size + 1 + 1 + 1 + 1 + 1), 1, none⟩ (.slice m9 n9 c9)).setCell ⟨(w.heap.size + 1 + 1 + 1 + 1 + 1), 2, none⟩ (.bool t9)).setCell ⟨(w.heap.size + 1 + 1 + 1 + 1 + 1), 3, none⟩ (.slice o9 p9 d9)) = ws2 at *
        refine Calm.take (i := 21) (v := ?_) (a' := ?_) (l' := #[true, true, true, true, true, true, true, true, true, true, true, true, true, true, true, true, true, true, true, true, true, true]) (d := some 9) rfl (by kernel_rfl) (by kernel_rfl) (by kernel_rfl) (by kernel_rfl) (fun _ _ _ h => h) HF.out rfl ?_ rfl rfl ?_ ?_
        rotate_left
        · intro w' hF; clear hF; go_simp; try rfl
        rotate_left
        · simp only [Act.put]; exact rfl
        refine Calm.done (by kernel_rfl) ?_
        replace HB := hide HF.out.1
        replace P0 := hide HF.out.2.1
        replace P1 := hide HF.out.2.2.1
        replace P2 := hide HF.out.2.2.2.1
        replace V0 := hide HF.out.2.2.2.2.1
        replace V1 := hide HF.out.2.2.2.2.2.1
        replace V2 := hide HF.out.2.2.2.2.2.2.1
        replace I0 := hide HF.out.2.2.2.2.2.2.2.1
        replace I1 := hide HF.out.2.2.2.2.2.2.2.2.1
        replace I2 := hide HF.out.2.2.2.2.2.2.2.2.2
        clear HF
        refine (by assumption : ∀ (a : Act) (w : World), Code.wp Try.prog Code.ret _ a w → _) _ _ ?_
        refine wp_ret ?_
        refine ret_three rfl (w.heap.size + 1 + 1 + 1) (w.heap.size + 1 + 1 + 1 + 1) (w.heap.size + 1 + 1 + 1 + 1 + 1) _ _ _ _ _ _ _ _ _ _ _ _ false (by kernel_rfl) (by kernel_rfl) (by kernel_rfl) (by kernel_rfl) R0.out R1.out R2.out rfl ?_
        exact ⟨⟨_, _, _, x, y, z, false, rfl, I0.out, I1.out, I2.out, Z0.out, Z1.out, Z2.out⟩, HB.out⟩
      | true =>
        replace R0 := hide R0.out.drew
        replace R1 := hide R1.out.drew
        replace R2 := hide R2.out.drew
        refine wp_calm (fun w' => Below w.heap.size w w' ∧ BoxF w' w.heap.size (.string b0) (.string b1) ∧ BoxF w' (w.heap.size + 1) (.string b2) (.string b3) ∧ BoxF w' (w.heap.size + 1 + 1) (.string b4) (.string b5) ∧ Box4 w' ga (.bool s7) (.slice m7 n7 c7) (.bool t7) (.slice o7 p7 d7) ∧ Box4 w' gb (.bool s8) (.slice m8 n8 c8) (.bool t8) (.slice o8 p8 d8) ∧ Box4 w' gc (.bool s9) (.slice m9 n9 c9) (.bool t9) (.slice o9 p9 d9) ∧ RatAt w' (.agg #[.bool s7, .slice m7 n7 c7, .bool t7, .slice o7 p7 d7]) x ∧ RatAt w' (.agg #[.bool s8, .slice m8 n8 c8, .bool t8, .slice o8 p8 d8]) y ∧ RatAt w' (.agg #[.bool s9, .slice m9 n9 c9, .bool t9, .slice o9 p9 d9]) z) (fun _ => true) 22 #[false, false, false, false, false, false, false, false, false, false, false, false, false, false, false, false, false, false, false, false, false, false] (by kernel_rfl) rfl rfl ?_
        have HF := hide (And.intro (HB.out.drew) (And.intro (P0.out.drew) (And.intro (P1.out.drew) (And.intro (P2.out.drew) (And.intro (V0.out.drew) (And.intro (V1.out.drew) (And.intro (V2.out.drew) (And.intro (I0.out.drew) (And.intro (I1.out.drew) (I2.out.drew))))))))))
        generalize u3a.drew = u3ad at *
        refine Calm.take (i := 0) (v := ?_) (a' := ?_) (l' := #[true, false, false, false, false, false, false, false, false, false, false, false, false, false, false, false, false, false, false, false, false, false]) (d := some 31) rfl (by kernel_rfl) (by kernel_rfl) (by kernel_rfl) (by kernel_rfl) (fun _ _ _ h => h) HF.out rfl ?_ rfl rfl ?_ ?_
        rotate_left
        · intro w' hF; have f10 := hF.2.1.cell0; have f11 := hF.2.1.cell1; have f20 := hF.2.2.1.cell0; have f21 := hF.2.2.1.cell1; have f30 := hF.2.2.2.1.cell0; have f31 := hF.2.2.2.1.cell1; have f40 := hF.2.2.2.2.1.cell0; have f41 := hF.2.2.2.2.1.cell1; have f42 := hF.2.2.2.2.1.cell2; have f43 := hF.2.2.2.2.1.cell3; have f50 := hF.2.2.2.2.2.1.cell0; have f51 := hF.2.2.2.2.2.1.cell1; have f52 := hF.2.2.2.2.2.1.cell2; have f53 := hF.2.2.2.2.2.1.cell3; have f60 := hF.2.2.2.2.2.2.1.cell0; have f61 := hF.2.2.2.2.2.2.1.cell1; have f62 := hF.2.2.2.2.2.2.1.cell2; have f63 := hF.2.2.2.2.2.2.1.cell3; clear hF; go_simp; try rfl
        rotate_left
        · simp only [Act.put]; exact rfl
        refine Calm.take (i := 1) (v := ?_) (a' := ?_) (l' := #[true, true, false, false, false, false, false, false, false, false, false, false, false, false, false, false, false, false, false, false, false, false]) (d := some 32) rfl (by kernel_rfl) (by kernel_rfl) (by kernel_rfl) (by kernel_rfl) (fun _ _ _ h => h) HF.out rfl ?_ rfl rfl ?_ ?_
        rotate_left
        · intro w' hF; have f10 := hF.2.1.cell0; have f11 := hF.2.1.cell1; have f20 := hF.2.2.1.cell0; have f21 := hF.2.2.1.cell1; have f30 := hF.2.2.2.1.cell0; have f31 := hF.2.2.2.1.cell1; have f40 := hF.2.2.2.2.1.cell0; have f41 := hF.2.2.2.2.1.cell1; have f42 := hF.2.2.2.2.1.cell2; have f43 := hF.2.2.2.2.1.cell3; have f50 := hF.2.2.2.2.2.1.cell0; have f51 := hF.2.2.2.2.2.1.cell1; have f52 := hF.2.2.2.2.2.1.cell2; have f53 := hF.2.2.2.2.2.1.cell3; have f60 := hF.2.2.2.2.2.2.1.cell0; have f61 := hF.2.2.2.2.2.2.1.cell1; have f62 := hF.2.2.2.2.2.2.1.cell2; have f63 := hF.2.2.2.2.2.2.1.cell3; clear hF; go_simp; try rfl
        rotate_left
        · simp only [Act.put]; exact rfl
        refine Calm.take (i := 2) (v := ?_) (a' := ?_) (l' := #[true, true, true, false, false, false, false, false, false, false, false, false, false, false, false, false, false, false, false, false, false, false]) (d := some 33) rfl (by kernel_rfl) (by kernel_rfl) (by kernel_rfl) (by kernel_rfl) (fun _ _ _ h => h) HF.out rfl ?_ rfl rfl ?_ ?_
        rotate_left
        · intro w' hF; have f10 := hF.2.1.cell0; have f11 := hF.2.1.cell1; have f20 := hF.2.2.1.cell0; have f21 := hF.2.2.1.cell1; have f30 := hF.2.2.2.1.cell0; have f31 := hF.2.2.2.1.cell1; have f40 := hF.2.2.2.2.1.cell0; have f41 := hF.2.2.2.2.1.cell1; have f42 := hF.2.2.2.2.1.cell2; have f43 := hF.2.2.2.2.1.cell3; have f50 := hF.2.2.2.2.2.1.cell0; have f51 := hF.2.2.2.2.2.1.cell1; have f52 := hF.2.2.2.2.2.1.cell2; have f53 := hF.2.2.2.2.2.1.cell3; have f60 := hF.2.2.2.2.2.2.1.cell0; have f61 := hF.2.2.2.2.2.2.1.cell1; have f62 := hF.2.2.2.2.2.2.1.cell2; have f63 := hF.2.2.2.2.2.2.1.cell3; clear hF; go_simp; try rfl
        rotate_left
        · simp only [Act.put]; exact rfl
        refine Calm.take (i := 3) (v := ?_) (a' := ?_) (l' := #[true, true, true, true, false, false, false, false, false, false, false, false, false, false, false, false, false, false, false, false, false, false]) (d := some 34) rfl (by kernel_rfl) (by kernel_rfl) (by kernel_rfl) (by kernel_rfl) (fun _ _ _ h => h) HF.out rfl ?_ rfl rfl ?_ ?_
        rotate_left
        · intro w' hF; clear hF; go_simp; try rfl
        rotate_left
        · simp only [Act.put]; exact rfl
        refine Calm.take (i := 4) (v := ?_) (a' := ?_) (l' := #[true, true, true, true, true, false, false, false, false, false, false, false, false, false, false, false, false, false, false, false, false, false]) (d := some 35) rfl (by kernel_rfl) (by kernel_rfl) (by kernel_rfl) (by kernel_rfl) (fun _ _ _ h => h) HF.out rfl ?_ rfl rfl ?_ ?_
        rotate_left
        · intro w' hF; clear hF; go_simp; try rfl
        rotate_left
        · simp only [Act.put]; exact rfl
        refine Calm.take (i := 5) (v := ?_) (a' := ?_) (l' := #[true, true, true, true, true, true, false, false, false, false, false, false, false, false, false, false, false, false, false, false, false, false]) (d := some 36) rfl (by kernel_rfl) (by kernel_rfl) (by kernel_rfl) (by kernel_rfl) (fun _ _ _ h => h) HF.out (by kernel_rfl) ?_ rfl rfl ?_ ?_
        rotate_left
        · intro w' hF; clear hF; go_simp; try rfl
        rotate_left
        · simp only [Act.put]; exact rfl
        refine Calm.take (i := 6) (v := ?_) (a' := ?_) (l' := #[true, true, true, true, true, true, true, false, false, false, false, false, false, false, false, false, false, false, false, false, false, false]) (d := some 37) rfl (by kernel_rfl) (by kernel_rfl) (by kernel_rfl) (by kernel_rfl) (fun _ _ _ h => h) HF.out rfl ?_ rfl rfl ?_ ?_
        rotate_left
        · intro w' hF; clear hF; go_simp; try rfl
        rotate_left
        · simp only [Act.put]; exact rfl
        refine Calm.take (i := 7) (v := ?_) (a' := ?_) (l' := #[true, true, true, true, true, true, true, true, false, false, false, false, false, false, false, false, false, false, false, false, false, false]) (d := some 38) rfl (by kernel_rfl) (by kernel_rfl) (by kernel_rfl) (by kernel_rfl) (fun _ _ _ h => h) HF.out rfl ?_ rfl rfl ?_ ?_
        rotate_left
        · intro w' hF; clear hF; go_simp; try rfl
        rotate_left
        · simp only [Act.put]; exact rfl
        refine Calm.take (i := 8) (v := ?_) (a' := ?_) (l' := #[true, true, true, true, true, true, true, true, true, false, false, false, false, false, false, false, false, false, false, false, false, false]) (d := some 39) rfl (by kernel_rfl) (by kernel_rfl) (by kernel_rfl) (by kernel_rfl) (fun _ _ _ h => h) HF.out (by kernel_rfl) ?_ rfl rfl ?_ ?_
        rotate_left
        · intro w' hF; clear hF; go_simp; try rfl
        rotate_left
        · simp only [Act.put]; exact rfl
        refine Calm.take (i := 9) (v := ?_) (a' := ?_) (l' := #[true, true, true, true, true, true, true, true, true, true, false, false, false, false, false, false, false, false, false, false, false, false]) (d := some 40) rfl (by kernel_rfl) (by kernel_rfl) (by kernel_rfl) (by kernel_rfl) (fun _ _ _ h => h) HF.out rfl ?_ rfl rfl ?_ ?_
        rotate_left
        · intro w' hF; clear hF; go_simp; try rfl
        rotate_left
        · simp only [Act.put]; exact rfl
        refine Calm.take (i := 10) (v := ?_) (a' := ?_) (l' := #[true, true, true, true, true, true, true, true, true, true, true, false, false, false, false, false, false, false, false, false, false, false]) (d := some 41) rfl (by kernel_rfl) (by kernel_rfl) (by kernel_rfl) (by kernel_rfl) (fun _ _ _ h => h) HF.out rfl ?_ rfl rfl ?_ ?_
        rotate_left
        · intro w' hF; clear hF; go_simp; try rfl
        rotate_left
        · simp only [Act.put]; exact rfl
        refine Calm.take (i := 11) (v := ?_) (a' := ?_) (l' := #[true, true, true, true, true, true, true, true, true, true, true, true, false, false, false, false, false, false, false, false, false, false]) (d := some 42) rfl (by kernel_rfl) (by kernel_rfl) (by kernel_rfl) (by kernel_rfl) (fun _ _ _ h => h) HF.out (by kernel_rfl) ?_ rfl rfl ?_ ?_
        rotate_left
        · intro w' hF; have f10 := hF.2.1.cell0; have f11 := hF.2.1.cell1; have f20 := hF.2.2.1.cell0; have f21 := hF.2.2.1.cell1; have f30 := hF.2.2.2.1.cell0; have f31 := hF.2.2.2.1.cell1; have f40 := hF.2.2.2.2.1.cell0; have f41 := hF.2.2.2.2.1.cell1; have f42 := hF.2.2.2.2.1.cell2; have f43 := hF.2.2.2.2.1.cell3; have f50 := hF.2.2.2.2.2.1.cell0; have f51 := hF.2.2.2.2.2.1.cell1; have f52 := hF.2.2.2.2.2.1.cell2; have f53 := hF.2.2.2.2.2.1.cell3; have f60 := hF.2.2.2.2.2.2.1.cell0; have f61 := hF.2.2.2.2.2.2.1.cell1; have f62 := hF.2.2.2.2.2.2.1.cell2; have f63 := hF.2.2.2.2.2.2.1.cell3; clear hF; go_simp; try rfl
        rotate_left
        · simp only [Act.put]; exact rfl
        refine Calm.take (i := 12) (v := ?_) (a' := ?_) (l' := #[true, true, true, true, true, true, true, true, true, true, true, true, true, false, false, false, false, false, false, false, false, false]) (d := some 43) rfl (by kernel_rfl) (by kernel_rfl) (by kernel_rfl) (by kernel_rfl) (fun _ _ _ h => h) HF.out (by kernel_rfl) ?_ rfl rfl ?_ ?_
        rotate_left
        · intro w' hF; have f10 := hF.2.1.cell0; have f11 := hF.2.1.cell1; have f20 := hF.2.2.1.cell0; have f21 := hF.2.2.1.cell1; have f30 := hF.2.2.2.1.cell0; have f31 := hF.2.2.2.1.cell1; have f40 := hF.2.2.2.2.1.cell0; have f41 := hF.2.2.2.2.1.cell1; have f42 := hF.2.2.2.2.1.cell2; have f43 := hF.2.2.2.2.1.cell3; have f50 := hF.2.2.2.2.2.1.cell0; have f51 := hF.2.2.2.2.2.1.cell1; have f52 := hF.2.2.2.2.2.1.cell2; have f53 := hF.2.2.2.2.2.1.cell3; have f60 := hF.2.2.2.2.2.2.1.cell0; have f61 := hF.2.2.2.2.2.2.1.cell1; have f62 := hF.2.2.2.2.2.2.1.cell2; have f63 := hF.2.2.2.2.2.2.1.cell3; clear hF; go_simp; try rfl
        rotate_left
        · simp only [Act.put]; exact rfl
        refine Calm.take (i := 13) (v := ?_) (a' := ?_) (l' := #[true, true, true, true, true, true, true, true, true, true, true, true, true, true, false, false, false, false, false, false, false, false]) (d := some 44) rfl (by kernel_rfl) (by kernel_rfl) (by kernel_rfl) (by kernel_rfl) (fun _ _ _ h => h) HF.out (by kernel_rfl) ?_ rfl rfl ?_ ?_
        rotate_left
        · intro w' hF; have f10 := hF.2.1.cell0; have f11 := hF.2.1.cell1; have f20 := hF.2.2.1.cell0; have f21 := hF.2.2.1.cell1; have f30 := hF.2.2.2.1.cell0; have f31 := hF.2.2.2.1.cell1; have f40 := hF.2.2.2.2.1.cell0; have f41 := hF.2.2.2.2.1.cell1; have f42 := hF.2.2.2.2.1.cell2; have f43 := hF.2.2.2.2.1.cell3; have f50 := hF.2.2.2.2.2.1.cell0; have f51 := hF.2.2.2.2.2.1.cell1; have f52 := hF.2.2.2.2.2.1.cell2; have f53 := hF.2.2.2.2.2.1.cell3; have f60 := hF.2.2.2.2.2.2.1.cell0; have f61 := hF.2.2.2.2.2.2.1.cell1; have f62 := hF.2.2.2.2.2.2.1.cell2; have f63 := hF.2.2.2.2.2.2.1.cell3; clear hF; go_simp; try rfl
        rotate_left
        · simp only [Act.put]; exact rfl
        refine Calm.one (i := 14) (l' := #[true, true, true, true, true, true, true, true, true, true, true, true, true, true, true, false, false, false, false, false, false, false]) (by kernel_rfl) rfl (by kernel_rfl) rfl fun K hK => ?_
        go_simp
        have al := below_alloc u3ad (.cells #[.string b0, .string b1, .string b2, .string b3, .string b4, .string b5] 23)
        have HF' := hide (And.intro (HF.out.1.trans ((al).mono HF.out.1.size)) (And.intro (HF.out.2.1.step (al)) (And.intro (HF.out.2.2.1.step (al)) (And.intro (HF.out.2.2.2.1.step (al)) (And.intro (HF.out.2.2.2.2.1.step (al)) (And.intro (HF.out.2.2.2.2.2.1.step (al)) (And.intro (HF.out.2.2.2.2.2.2.1.step (al)) (And.intro (HF.out.2.2.2.2.2.2.2.1.below (al)) (And.intro (HF.out.2.2.2.2.2.2.2.2.1.below (al)) (HF.out.2.2.2.2.2.2.2.2.2.below (al)))))))))))
        have BXl := hide (fracs_lit3 (w := u3ad) (t := 23) l0 l1 l2 l3 l4 l5)
        replace R0 := hide (R0.out.step (al))
        replace R1 := hide (R1.out.step (al))
        replace R2 := hide (R2.out.step (al))
        have LT1l := hide (HF.out.2.1.lt)
        have LT2l := hide (HF.out.2.2.1.lt)
        have LT3l := hide (HF.out.2.2.2.1.lt)
        have LT4l := hide (HF.out.2.2.2.2.1.lt)
        have LT5l := hide (HF.out.2.2.2.2.2.1.lt)
        have LT6l := hide (HF.out.2.2.2.2.2.2.1.lt)
        have GEl := hide (HF.out.1.size)
        refine hK _ _ (fun _ => HF'.out) ?_
        clear hK K HF al
        have HF := hide HF'.out
        clear HF'
        generalize u3ad.alloc (.cells #[.string b0, .string b1, .string b2, .string b3, .string b4, .string b5] 23) = wzl at *
        generalize u3ad.heap.size = gl at *
        refine Calm.one (i := 15) (l' := #[true, true, true, true, true, true, true, true, true, true, true, true, true, true, true, true, false, false, false, false, false, false]) (by kernel_rfl) rfl (by kernel_rfl) rfl fun K hK => ?_
        go_simp
        refine (long3_any _ 3 _ BXl.out).mono ?_
        rintro e u9 ⟨⟨r, rfl⟩, hb⟩
        replace R0 := hide (R0.out.step (hb))
        replace R1 := hide (R1.out.step (hb))
        replace R2 := hide (R2.out.step (hb))
        replace BXl := hide (BXl.out.below hb)
        have HF' := hide (And.intro (HF.out.1.trans ((hb).mono HF.out.1.size)) (And.intro (HF.out.2.1.step (hb)) (And.intro (HF.out.2.2.1.step (hb)) (And.intro (HF.out.2.2.2.1.step (hb)) (And.intro (HF.out.2.2.2.2.1.step (hb)) (And.intro (HF.out.2.2.2.2.2.1.step (hb)) (And.intro (HF.out.2.2.2.2.2.2.1.step (hb)) (And.intro (HF.out.2.2.2.2.2.2.2.1.below (hb)) (And.intro (HF.out.2.2.2.2.2.2.2.2.1.below (hb)) (HF.out.2.2.2.2.2.2.2.2.2.below (hb)))))))))))
        refine hK _ _ (fun _ => HF'.out) ?_
        clear hK K HF hb
        have HF := hide HF'.out
        clear HF'
        refine Calm.take (i := 16) (v := ?_) (a' := ?_) (l' := #[true, true, true, true, true, true, true, true, true, true, true, true, true, true, true, true, true, false, false, false, false, false]) (d := some 47) rfl (by kernel_rfl) (by kernel_rfl) (by kernel_rfl) (by kernel_rfl) (fun _ _ _ h => h) HF.out (by kernel_rfl) ?_ rfl rfl ?_ ?_
        rotate_left
        · intro w' hF; clear hF; go_simp; try rfl
        rotate_left
        · simp only [Act.put]; exact rfl
        refine Calm.take (i := 17) (v := ?_) (a' := ?_) (l' := #[true, true, true, true, true, true, true, true, true, true, true, true, true, true, true, true, true, true, false, false, false, false]) (d := some 48) rfl (by kernel_rfl) (by kernel_rfl) (by kernel_rfl) (by kernel_rfl) (fun _ _ _ h => h) HF.out rfl ?_ rfl rfl ?_ ?_
        rotate_left
        · intro w' hF; clear hF; go_simp; try rfl
        rotate_left
        · simp only [Act.put]; exact rfl
        refine Calm.one (i := 18) (l' := #[true, true, true, true, true, true, true, true, true, true, true, true, true, true, true, true, true, true, true, false, false, false]) (by kernel_rfl) rfl rfl rfl fun K hK => ?_
        have hc0 := R0.out.cell0
        have hc1 := R0.out.cell1
        have hc2 := R0.out.cell2
        have hc3 := R0.out.cell3
        have hf0 := R0.out.free 0
        have hf1 := R0.out.free 1
        have hf2 := R0.out.free 2
        have hf3 := R0.out.free 3
        go_simp
        have HF' := hide (And.intro (below_put4 HF.out.1 (show w.heap.size ≤ (w.heap.size + 1 + 1 + 1) by have hx := LTS.out; omega) (.bool s7) (.slice m7 n7 c7) (.bool t7) (.slice o7 p7 d7)) (And.intro (HF.out.2.1.other4 (C := (w.heap.size + 1 + 1 + 1)) (by have hx := LTS.out; omega) (.bool s7) (.slice m7 n7 c7) (.bool t7) (.slice o7 p7 d7)) (And.intro (HF.out.2.2.1.other4 (C := (w.heap.size + 1 + 1 + 1)) (by have hx := LTS.out; omega) (.bool s7) (.slice m7 n7 c7) (.bool t7) (.slice o7 p7 d7)) (And.intro (HF.out.2.2.2.1.other4 (C := (w.heap.size + 1 + 1 + 1)) (by have hx := LTS.out; omega) (.bool s7) (.slice m7 n7 c7) (.bool t7) (.slice o7 p7 d7)) (And.intro (HF.out.2.2.2.2.1.other4 (C := (w.heap.size + 1 + 1 + 1)) (by have hx := LTS.out; omega) (.bool s7) (.slice m7 n7 c7) (.bool t7) (.slice o7 p7 d7)) (And.intro (HF.out.2.2.2.2.2.1.other4 (C := (w.heap.size + 1 + 1 + 1)) (by have hx := LTS.out; omega) (.bool s7) (.slice m7 n7 c7) (.bool t7) (.slice o7 p7 d7)) (And.intro (HF.out.2.2.2.2.2.2.1.other4 (C := (w.heap.size + 1 + 1 + 1)) (by have hx := LTS.out; omega) (.bool s7) (.slice m7 n7 c7) (.bool t7) (.slice o7 p7 d7)) (And.intro (HF.out.2.2.2.2.2.2.2.1.keep (R0.out.keeps (by simp) (by simp) (by simp) (by simp) (.bool s7) (.slice m7 n7 c7) (.bool t7) (.slice o7 p7 d7))) (And.intro (HF.out.2.2.2.2.2.2.2.2.1.keep (R0.out.keeps (by simp) (by simp) (by simp) (by simp) (.bool s7) (.slice m7 n7 c7) (.bool t7) (.slice o7 p7 d7))) (HF.out.2.2.2.2.2.2.2.2.2.keep (R0.out.keeps (by simp) (by simp) (by simp) (by simp) (.bool s7) (.slice m7 n7 c7) (.bool t7) (.slice o7 p7 d7))))))))))))
        replace R1 := hide (R1.out.other4 (C := (w.heap.size + 1 + 1 + 1)) (by have hx := LTS.out; omega) (.bool s7) (.slice m7 n7 c7) (.bool t7) (.slice o7 p7 d7))
        replace R2 := hide (R2.out.other4 (C := (w.heap.size + 1 + 1 + 1)) (by have hx := LTS.out; omega) (.bool s7) (.slice m7 n7 c7) (.bool t7) (.slice o7 p7 d7))
        clear BXl
        replace R0 := hide (R0.out.put (.bool s7) (.slice m7 n7 c7) (.bool t7) (.slice o7 p7 d7))
        refine hK _ _ (fun _ => HF'.out) ?_
        clear hK K HF hc0 hf0 hc1 hf1 hc2 hf2 hc3 hf3
        have HF := hide HF'.out
        clear HF'
        generalize ((((u9.setCell ⟨(w.heap.size + 1 + 1 + 1), 0, none⟩ (.bool s7)).setCell ⟨(w.heap.size + 1 + 1 + 1), 1, none⟩ (.slice m7 n7 c7)).setCell ⟨(w.heap.size + 1 + 1 + 1), 2, none⟩ (.bool t7)).setCell ⟨(w.heap.size + 1 + 1 + 1), 3, none⟩ (.slice o7 p7 d7)) = ws0 at *
        refine Calm.one (i := 19) (l' := #[true, true, true, true, true, true, true, true, true, true, true, true, true, true, true, true, true, true, true, true, false, false]) (by kernel_rfl) rfl rfl rfl fun K hK => ?_
        have hc0 := R1.out.cell0
        have hc1 := R1.out.cell1
        have hc2 := R1.out.cell2
        have hc3 := R1.out.cell3
        have hf0 := R1.out.free 0
        have hf1 := R1.out.free 1
        have hf2 := R1.out.free 2
        have hf3 := R1.out.free 3
        go_simp
        have HF' := hide (And.intro (below_put4 HF.out.1 (show w.heap.size ≤ (w.heap.size + 1 + 1 + 1 + 1) by have hx := LTS.out; omega) (.bool s8) (.slice m8 n8 c8) (.bool t8) (.slice o8 p8 d8)) (And.intro (HF.out.2.1.other4 (C := (w.heap.size + 1 + 1 + 1 + 1)) (by have hx := LTS.out; omega) (.bool s8) (.slice m8 n8 c8) (.bool t8) (.slice o8 p8 d8)) (And.intro (HF.out.2.2.1.other4 (C := (w.heap.size + 1 + 1 + 1 + 1)) (by have hx := LTS.out; omega) (.bool s8) (.slice m8 n8 c8) (.bool t8) (.slice o8 p8 d8)) (And.intro (HF.out.2.2.2.1.other4 (C := (w.heap.size + 1 + 1 + 1 + 1)) (by have hx := LTS.out; omega) (.bool s8) (.slice m8 n8 c8) (.bool t8) (.slice o8 p8 d8)) (And.intro (HF.out.2.2.2.2.1.other4 (C := (w.heap.size + 1 + 1 + 1 + 1)) (by have hx := LTS.out; omega) (.bool s8) (.slice m8 n8 c8) (.bool t8) (.slice o8 p8 d8)) (And.intro (HF.out.2.2.2.2.2.1.other4 (C := (w.heap.size + 1 + 1 + 1 + 1)) (by have hx := LTS.out; omega) (.bool s8) (.slice m8 n8 c8) (.bool t8) (.slice o8 p8 d8)) (And.intro (HF.out.2.2.2.2.2.2.1.other4 (C := (w.heap.size + 1 + 1 + 1 + 1)) (by have hx := LTS.out; omega) (.bool s8) (.slice m8 n8 c8) (.bool t8) (.slice o8 p8 d8)) (And.intro (HF.out.2.2.2.2.2.2.2.1.keep (R1.out.keeps (by simp) (by simp) (by simp) (by simp) (.bool s8) (.slice m8 n8 c8) (.bool t8) (.slice o8 p8 d8))) (And.intro (HF.out.2.2.2.2.2.2.2.2.1.keep (R1.out.keeps (by simp) (by simp) (by simp) (by simp) (.bool s8) (.slice m8 n8 c8) (.bool t8) (.slice o8 p8 d8))) (HF.out.2.2.2.2.2.2.2.2.2.keep (R1.out.keeps (by simp) (by simp) (by simp) (by simp) (.bool s8) (.slice m8 n8 c8) (.bool t8) (.slice o8 p8 d8))))))))))))
        replace R0 := hide (R0.out.other4 (C := (w.heap.size + 1 + 1 + 1 + 1)) (by have hx := LTS.out; omega) (.bool s8) (.slice m8 n8 c8) (.bool t8) (.slice o8 p8 d8))
        replace R2 := hide (R2.out.other4 (C := (w.heap.size + 1 + 1 + 1 + 1)) (by have hx := LTS.out; omega) (.bool s8) (.slice m8 n8 c8) (.bool t8) (.slice o8 p8 d8))
        replace R1 := hide (R1.out.put (.bool s8) (.slice m8 n8 c8) (.bool t8) (.slice o8 p8 d8))
        refine hK _ _ (fun _ => HF'.out) ?_
        clear hK K HF hc0 hf0 hc1 hf1 hc2 hf2 hc3 hf3
        have HF := hide HF'.out
        clear HF'
        generalize ((((ws0.setCell ⟨(w.heap.size + 1 + 1 + 1 + 1), 0, none⟩ (.bool s8)).setCell ⟨(w.heap.size + 1 + 1 + 1 + 1), 1, none⟩ (.slice m8 n8 c8)).setCell ⟨(w.heap.size + 1 + 1 + 1 + 1), 2, none⟩ (.bool t8)).setCell ⟨(w.heap.size + 1 + 1 + 1 + 1), 3, none⟩ (.slice o8 p8 d8)) = ws1 at *
        refine Calm.one (i := 20) (l' := #[true, true, true, true, true, true, true, true, true, true, true, true, true, true, true, true, true, true, true, true, true, false]) (by kernel_rfl) rfl rfl rfl fun K hK => ?_
        have hc0 := R2.out.cell0
        have hc1 := R2.out.cell1
        have hc2 := R2.out.cell2
        have hc3 := R2.out.cell3
        have hf0 := R2.out.free 0
        have hf1 := R2.out.free 1
        have hf2 := R2.out.free 2
        have hf3 := R2.out.free 3
        go_simp
        have HF' := hide (And.intro (below_put4 HF.out.1 (show w.heap.size ≤ (w.heap.size + 1 + 1 + 1 + 1 + 1) by have hx := LTS.out; omega) (.bool s9) (.slice m9 n9 c9) (.bool t9) (.slice o9 p9 d9)) (And.intro (HF.out.2.1.other4 (C := (w.heap.size + 1 + 1 + 1 + 1 + 1)) (by have hx := LTS.out; omega) (.bool s9) (.slice m9 n9 c9) (.bool t9) (.slice o9 p9 d9)) (And.intro (HF.out.2.2.1.other4 (C := (w.heap.size + 1 + 1 + 1 + 1 + 1)) (by have hx := LTS.out; omega) (.bool s9) (.slice m9 n9 c9) (.bool t9) (.slice o9 p9 d9)) (And.intro (HF.out.2.2.2.1.other4 (C := (w.heap.size + 1 + 1 + 1 + 1 + 1)) (by have hx := LTS.out; omega) (.bool s9) (.slice m9 n9 c9) (.bool t9) (.slice o9 p9 d9)) (And.intro (HF.out.2.2.2.2.1.other4 (C := (w.heap.size + 1 + 1 + 1 + 1 + 1)) (by have hx := LTS.out; omega) (.bool s9) (.slice m9 n9 c9) (.bool t9) (.slice o9 p9 d9)) (And.intro (HF.out.2.2.2.2.2.1.other4 (C := (w.heap.size + 1 + 1 + 1 + 1 + 1)) (by have hx := LTS.out; omega) (.bool s9) (.slice m9 n9 c9) (.bool t9) (.slice o9 p9 d9)) (And.intro (HF.out.2.2.2.2.2.2.1.other4 (C := (w.heap.size + 1 + 1 + 1 + 1 + 1)) (by have hx := LTS.out; omega) (.bool s9) (.slice m9 n9 c9) (.bool t9) (.slice o9 p9 d9)) (And.intro (HF.out.2.2.2.2.2.2.2.1.keep (R2.out.keeps (by simp) (by simp) (by simp) (by simp) (.bool s9) (.slice m9 n9 c9) (.bool t9) (.slice o9 p9 d9))) (And.intro (HF.out.2.2.2.2.2.2.2.2.1.keep (R2.out.keeps (by simp) (by simp) (by simp) (by simp) (.bool s9) (.slice m9 n9 c9) (.bool t9) (.slice o9 p9 d9))) (HF.out.2.2.2.2.2.2.2.2.2.keep (R2.out.keeps (by simp) (by simp) (by simp) (by simp) (.bool s9) (.slice m9 n9 c9) (.bool t9) (.slice o9 p9 d9))))))))))))
        replace R0 := hide (R0.out.other4 (C := (w.heap.size + 1 + 1 + 1 + 1 + 1)) (by have hx := LTS.out; omega) (.bool s9) (.slice m9 n9 c9) (.bool t9) (.slice o9 p9 d9))
        replace R1 := hide (R1.out.other4 (C := (w.heap.size + 1 + 1 + 1 + 1 + 1)) (by have hx := LTS.out; omega) (.bool s9) (.slice m9 n9 c9) (.bool t9) (.slice o9 p9 d9))
        replace R2 := hide (R2.out.put (.bool s9) (.slice m9 n9 c9) (.bool t9) (.slice o9 p9 d9))
        refine hK _ _ (fun _ => HF'.out) ?_
        clear hK K HF hc0 hf0 hc1 hf1 hc2 hf2 hc3 hf3
        have HF := hide HF'.out
        clear HF'
        generalize ((((ws1.setCell ⟨(w.heap.size + 1 + 1 + 1 + 1 + 1), 0, none⟩ (.bool s9)).setCell ⟨(w.heap.size + 1 + 1 + 1 + 1 + 1), 1, none⟩ (.slice m9 n9 c9)).setCell ⟨(w.heap.size + 1 + 1 + 1 + 1 + 1), 2, none⟩ (.bool t9)).setCell ⟨(w.heap.size + 1 + 1 + 1 + 1 + 1), 3, none⟩ (.slice o9 p9 d9)) = ws2 at *
        refine Calm.take (i := 21) (v := ?_) (a' := ?_) (l' := #[true, true, true, true, true, true, true, true, true, true, true, true, true, true, true, true, true, true, true, true, true, true]) (d := some 9) rfl (by kernel_rfl) (by kernel_rfl) (by kernel_rfl) (by kernel_rfl) (fun _ _ _ h => h) HF.out rfl ?_ rfl rfl ?_ ?_
        rotate_left
        · intro w' hF; clear hF; go_simp; try rfl
        rotate_left
        · simp only [Act.put]; exact rfl
        refine Calm.done (by kernel_rfl) ?_
        replace HB := hide HF.out.1
        replace P0 := hide HF.out.2.1
        replace P1 := hide HF.out.2.2.1
        replace P2 := hide HF.out.2.2.2.1
        replace V0 := hide HF.out.2.2.2.2.1
        replace V1 := hide HF.out.2.2.2.2.2.1
        replace V2 := hide HF.out.2.2.2.2.2.2.1
        replace I0 := hide HF.out.2.2.2.2.2.2.2.1
        replace I1 := hide HF.out.2.2.2.2.2.2.2.2.1
        replace I2 := hide HF.out.2.2.2.2.2.2.2.2.2
        clear HF
        refine (by assumption : ∀ (a : Act) (w : World), Code.wp Try.prog Code.ret _ a w → _) _ _ ?_
        refine wp_ret ?_
        refine ret_three rfl (w.heap.size + 1 + 1 + 1) (w.heap.size + 1 + 1 + 1 + 1) (w.heap.size + 1 + 1 + 1 + 1 + 1) _ _ _ _ _ _ _ _ _ _ _ _ (!r) (by kernel_rfl) (by kernel_rfl) (by kernel_rfl) (by kernel_rfl) R0.out R1.out R2.out rfl ?_
        exact ⟨⟨_, _, _, x, y, z, (!r), rfl, I0.out, I1.out, I2.out, Z0.out, Z1.out, Z2.out⟩, HB.out⟩
end Go.Proofs.Ytpbfbjipdacbkab
