/- swagelaw08.live: one answer that the document fixes: it is answered. -/
import Derived.Test.YteogbhgogiaocaaDoorPgChk
import Derived.Test.YteogbhgogiaocaaDoorPgBld
import Derived.Test.YteogbhgogiaocaaDoorCalmL
namespace Go.Proofs.YteogbhgogiaocaaDoor
open Go.RowKit

theorem Box4.below {W W' : World} {B T : Nat} {t : TypeId} {x y z u : Value} (h : Box4 W B t x y z u) (hb : Below T W W') (hT : B < T) : Box4 W' B t x y z u := (hb.block B hT).trans h
def liveP : Pg := ⟨1, 1, [], [0]⟩
theorem live_right : rightB liveP = true := by decide
theorem itoa1 (w : World) : Calls Tryd.prog 64 #[.int .i64 1] w fun e w' => e = .returned (.string ⟨#[49]⟩) ∧ w' = w := by
  have := Tryd.strconv_Itoa_small 1 (by decide) w
  rw [show Lib.decDigits 1 = [49] from by simp [Lib.decDigits]] at this
  exact this
theorem itoa0 (w : World) : Calls Tryd.prog 64 #[.int .i64 0] w fun e w' => e = .returned (.string ⟨#[48]⟩) ∧ w' = w := by
  have := Tryd.strconv_Itoa_small 0 (by decide) w
  rw [show Lib.decDigits 0 = [48] from by simp [Lib.decDigits]] at this
  exact this
set_option maxRecDepth 100000 in
theorem name0 (w : World) : Calls Tryd.prog 65 #[.int .i64 0] w fun e w' => e = .returned (.string ⟨#[114, 48]⟩) ∧ w' = w := by
  go_enter Tryd.func65, Tryd.ntmps65
  go_wp2_with fail
  refine (itoa0 _).mono ?_
  rintro e w1 ⟨rfl, rfl⟩
  go_wp2
  go_ret
  exact ⟨rfl, rfl⟩
theorem live_check (oa : Nat) (w : World) (h : w.cell? ⟨oa, 0, none⟩ = some (.int .i64 0)) :
    Calls Tryd.prog 18 #[.agg #[.int .i64 1, .int .i64 1, .slice none 0 0, .slice (some ⟨oa, 0, none⟩) 1 1]] w fun e w' => e = .returned (.tuple #[.int .i64 0, .int .i64 0]) ∧ Below w.heap.size w w' := by
  refine (check_any _ liveP w ⟨none, 0, _, 1, rfl, ⟨none, 0, rfl, Nat.le_refl _, Nat.zero_le _, fun h => absurd rfl h⟩, ⟨_, 1, rfl, Nat.le_refl _, by simp [maxLen], fun _ => ⟨oa, 0, rfl, fun i hi => ?_⟩⟩⟩).mono ?_
  · have : i = 0 := by have : i < 1 := hi; omega
    subst this
    exact h
  · rintro e w' ⟨rfl, hb⟩
    exact ⟨rfl, hb⟩

set_option maxRecDepth 100000 in
set_option maxHeartbeats 4000000 in
theorem live_text (oa : Nat) (w : World) (h : w.cell? ⟨oa, 0, none⟩ = some (.int .i64 0)) :
    Calls Tryd.prog 40 #[.agg #[.int .i64 1, .int .i64 1, .slice none 0 0, .slice (some ⟨oa, 0, none⟩) 1 1]] w fun e w' => e = .returned (.tuple #[.string ⟨#[105, 110, 32, 49, 32, 114, 101, 103, 115, 32, 49, 10, 111, 117, 116, 32, 114, 48, 10]⟩, .int .i64 0]) ∧ Below w.heap.size w w' := by
  have lt := World.block_lt_of_cell? w _ h
  have HC := hide h
  have HL : Hid (oa < w.heap.size) := lt
  clear h lt
  go_enter Tryd.func40, Tryd.ntmps40
  go_upto_region 1 with fail
  have PX := hide (Box4.new w 46 (.int .i64 1) (.int .i64 1) (.slice none 0 0) (.slice (some ⟨oa, 0, none⟩) 1 1))
  have HB := hide (below_alloc w (.cells #[.int .i64 1, .int .i64 1, .slice none 0 0, .slice (some ⟨oa, 0, none⟩) 1 1] 46))
  generalize w.alloc (.cells #[.int .i64 1, .int .i64 1, .slice none 0 0, .slice (some ⟨oa, 0, none⟩) 1 1] 46) = w1 at *
  obtain ⟨B, hB⟩ : ∃ B, B = w.heap.size := ⟨_, rfl⟩
  have HZ := hide hB
  rw [← hB] at PX ⊢
  clear hB
  have c0 := PX.out.cell0
  have c1 := PX.out.cell1
  have c2 := PX.out.cell2
  have c3 := PX.out.cell3
  go_wp2_with fail
  refine (live_check oa _ ((HB.out.cell HL.out).trans HC.out)).mono ?_
  rintro e w2 ⟨rfl, hb⟩
  replace PX := hide (PX.out.step hb)
  replace HB := hide (HB.out.trans (hb.mono HB.out.size))
  clear hb c0 c1 c2 c3
  go_upto_region 5 with fail
  have BX : Hid (Lib.IsBuilder 103 5 w2.heap.size w2.heap.size [] (w2.alloc (.cells #[.pointer none, .slice none 0 0] 103))) := hide (.inl ⟨Nat.le_refl _, _, heap_alloc_new _ _, ⟨rfl, .inl ⟨rfl, rfl⟩⟩, by simp [Value.ownBlock]⟩)
  have LW := hide PX.out.lt
  have WL : Hid (w.heap.size ≤ w2.heap.size) := hide HB.out.size
  replace PX := hide (PX.out.step (below_alloc w2 (.cells #[.pointer none, .slice none 0 0] 103)))
  replace HB := hide (HB.out.trans ((below_alloc w2 (.cells #[.pointer none, .slice none 0 0] 103)).mono HB.out.size))
  generalize w2.alloc (.cells #[.pointer none, .slice none 0 0] 103) = w3 at *
  generalize w2.heap.size = b at *
  clear HZ
  refine wp_calm (fun w' => Below w.heap.size w w' ∧ Box4 w' B 46 (.int .i64 1) (.int .i64 1) (.slice none 0 0) (.slice (some ⟨oa, 0, none⟩) 1 1) ∧ Lib.IsBuilder 103 5 b b [] w') (fun j => j != 10) 11 #[false, false, false, false, false, false, false, false, false, false, false] (by kernel_rfl) rfl rfl ?_
  have HF := hide (And.intro HB.out.drew (And.intro PX.out.drew (bld_drew BX.out)))
  generalize w3.drew = w3d at *
  refine Calm.takeL 11 (i := 0) (v := ?_) (a' := ?_) (l' := #[true, false, false, false, false, false, false, false, false, false, false]) (d := some 19) (by kernel_rfl) rfl (by kernel_rfl) (by kernel_rfl) (by kernel_rfl) (by kernel_rfl) (fun _ _ _ h => h) HF.out rfl ?_ rfl rfl ?_ ?_
  rotate_left
  · intro w' hF; clear hF; go_simp; try rfl
  rotate_left
  · simp only [Act.put]; exact rfl
  refine Calm.takeL 11 (i := 1) (v := ?_) (a' := ?_) (l' := #[true, true, false, false, false, false, false, false, false, false, false]) (d := some 20) (by kernel_rfl) rfl (by kernel_rfl) (by kernel_rfl) (by kernel_rfl) (by kernel_rfl) (fun _ _ _ h => h) HF.out rfl ?_ rfl rfl ?_ ?_
  rotate_left
  · intro w' hF; have f10 := hF.2.1.cell0; have f11 := hF.2.1.cell1; have f12 := hF.2.1.cell2; have f13 := hF.2.1.cell3; clear hF; go_simp; try rfl
  rotate_left
  · simp only [Act.put]; exact rfl
  refine Calm.takeL 11 (i := 5) (v := ?_) (a' := ?_) (l' := #[true, true, false, false, false, true, false, false, false, false, false]) (d := some 24) (by kernel_rfl) rfl (by kernel_rfl) (by kernel_rfl) (by kernel_rfl) (by kernel_rfl) (fun _ _ _ h => h) HF.out rfl ?_ rfl rfl ?_ ?_
  rotate_left
  · intro w' hF; clear hF; go_simp; try rfl
  rotate_left
  · simp only [Act.put]; exact rfl
  refine Calm.takeL 11 (i := 6) (v := ?_) (a' := ?_) (l' := #[true, true, false, false, false, true, true, false, false, false, false]) (d := some 25) (by kernel_rfl) rfl (by kernel_rfl) (by kernel_rfl) (by kernel_rfl) (by kernel_rfl) (fun _ _ _ h => h) HF.out rfl ?_ rfl rfl ?_ ?_
  rotate_left
  · intro w' hF; have f10 := hF.2.1.cell0; have f11 := hF.2.1.cell1; have f12 := hF.2.1.cell2; have f13 := hF.2.1.cell3; clear hF; go_simp; try rfl
  rotate_left
  · simp only [Act.put]; exact rfl
  refine Calm.one (i := 2) (l' := #[true, true, true, false, false, true, true, false, false, false, false]) (by kernel_rfl) rfl rfl rfl fun K hK => ?_
  go_simp
  refine (itoa1 _).mono ?_
  rintro e w5 ⟨rfl, hw⟩
  have hb : True := trivial
  rw [← hw] at HF
  clear hw
  have HF' := hide (HF.out)
  refine hK _ _ (fun _ => HF'.out) ?_
  clear hK K HF hb
  have HF := hide HF'.out
  clear HF'
  refine Calm.takeL 11 (i := 3) (v := ?_) (a' := ?_) (l' := #[true, true, true, true, false, true, true, false, false, false, false]) (d := some 22) (by kernel_rfl) rfl (by kernel_rfl) (by kernel_rfl) (by kernel_rfl) (by kernel_rfl) (fun _ _ _ h => h) HF.out rfl ?_ rfl rfl ?_ ?_
  rotate_left
  · intro w' hF; clear hF; go_simp; try rfl
  rotate_left
  · simp only [Act.put]; exact rfl
  refine Calm.takeL 11 (i := 4) (v := ?_) (a' := ?_) (l' := #[true, true, true, true, true, true, true, false, false, false, false]) (d := some 23) (by kernel_rfl) rfl (by kernel_rfl) (by kernel_rfl) (by kernel_rfl) (by kernel_rfl) (fun _ _ _ h => h) HF.out rfl ?_ rfl rfl ?_ ?_
  rotate_left
  · intro w' hF; clear hF; go_simp; try rfl
  rotate_left
  · simp only [Act.put]; exact rfl
  refine Calm.one (i := 7) (l' := #[true, true, true, true, true, true, true, true, false, false, false]) (by kernel_rfl) rfl rfl rfl fun K hK => ?_
  go_simp
  refine (itoa1 _).mono ?_
  rintro e w5 ⟨rfl, hw⟩
  have hb : True := trivial
  rw [← hw] at HF
  clear hw
  have HF' := hide (HF.out)
  refine hK _ _ (fun _ => HF'.out) ?_
  clear hK K HF hb
  have HF := hide HF'.out
  clear HF'
  refine Calm.takeL 11 (i := 8) (v := ?_) (a' := ?_) (l' := #[true, true, true, true, true, true, true, true, true, false, false]) (d := some 27) (by kernel_rfl) rfl (by kernel_rfl) (by kernel_rfl) (by kernel_rfl) (by kernel_rfl) (fun _ _ _ h => h) HF.out rfl ?_ rfl rfl ?_ ?_
  rotate_left
  · intro w' hF; clear hF; go_simp; try rfl
  rotate_left
  · simp only [Act.put]; exact rfl
  refine Calm.takeL 11 (i := 9) (v := ?_) (a' := ?_) (l' := #[true, true, true, true, true, true, true, true, true, true, false]) (d := some 28) (by kernel_rfl) rfl (by kernel_rfl) (by kernel_rfl) (by kernel_rfl) (by kernel_rfl) (fun _ _ _ h => h) HF.out rfl ?_ rfl rfl ?_ ?_
  rotate_left
  · intro w' hF; clear hF; go_simp; try rfl
  rotate_left
  · simp only [Act.put]; exact rfl
  refine Calm.one (i := 10) (l' := #[true, true, true, true, true, true, true, true, true, true, true]) (by kernel_rfl) rfl rfl rfl fun K hK => ?_
  go_simp
  refine (write_any b b [] _ _ HF.out.2.2 (by first | decide | (simp [ByteArray.size_append, ByteArray.size]; done) | (rw [show (_ : Nat) = _ from rfl]; decide)) (Nat.le_of_lt (bld_lt HF.out.2.2))).mono ?_
  rintro e w6 ⟨rfl, hI, hb⟩
  have BY := hide hI
  replace PX := hide (HF.out.2.1.below hb LW.out)
  replace HB := hide (HF.out.1.trans (hb.mono WL.out))
  clear hI hb
  refine hK _ _ (fun h => absurd h (by decide)) ?_
  clear hK K
  refine Calm.done (by kernel_rfl) ?_
  clear HF
  rw [show [] ++ Lib.strCells ({ data := #[105, 110, 32] } ++ { data := #[49] } ++ { data := #[32, 114, 101, 103, 115, 32] } ++ { data := #[49] } ++ { data := #[10] }) = Lib.byteCells [105, 110, 32, 49, 32, 114, 101, 103, 115, 32, 49, 10] from by kernel_rfl] at BY
  have c2 := PX.out.cell2
  go_wp2
  refine wp_loop_rounds 1 ?_
  rw [rounds_succ]
  go_upto_region 11 with fail
  clear c2
  go_wp2_with fail
  refine (write_any b b _ _ _ BY.out (by decide) (Nat.le_of_lt (bld_lt BY.out))).mono ?_
  rintro e w7 ⟨rfl, hI, hb⟩
  rw [show Lib.byteCells [105, 110, 32, 49, 32, 114, 101, 103, 115, 32, 49, 10] ++ Lib.strCells ⟨#[111, 117, 116]⟩ = Lib.byteCells [105, 110, 32, 49, 32, 114, 101, 103, 115, 32, 49, 10, 111, 117, 116] from by kernel_rfl] at hI
  replace BY := hide hI
  replace PX := hide (PX.out.below hb LW.out)
  replace HB := hide (HB.out.trans (hb.mono WL.out))
  clear hI hb
  have c3 := PX.out.cell3
  have o0 := (HB.out.cell HL.out).trans HC.out
  go_upto_region 12 with fail
  go_wp2
  refine wp_loop_rounds 2 ?_
  rw [rounds_succ]
  go_wp2_with fail
  refine (name0 _).mono ?_
  rintro e w8 ⟨rfl, hw⟩
  subst hw
  go_wp2_with fail
  refine (write_any b b _ _ _ BY.out (by decide) (Nat.le_of_lt (bld_lt BY.out))).mono ?_
  rintro e w9 ⟨rfl, hI, hb⟩
  rw [show Lib.byteCells [105, 110, 32, 49, 32, 114, 101, 103, 115, 32, 49, 10, 111, 117, 116] ++ Lib.strCells ({ data := #[32] } ++ { data := #[114, 48] }) = Lib.byteCells [105, 110, 32, 49, 32, 114, 101, 103, 115, 32, 49, 10, 111, 117, 116, 32, 114, 48] from by kernel_rfl] at hI
  replace BY := hide hI
  replace PX := hide (PX.out.below hb LW.out)
  replace HB := hide (HB.out.trans (hb.mono WL.out))
  clear hI hb
  clear c3 o0
  have c3 := PX.out.cell3
  go_wp2
  rw [rounds_succ]
  go_wp2_with fail
  refine (write_any b b _ _ _ BY.out (by decide) (Nat.le_of_lt (bld_lt BY.out))).mono ?_
  rintro e w10 ⟨rfl, hI, hb⟩
  rw [show Lib.byteCells [105, 110, 32, 49, 32, 114, 101, 103, 115, 32, 49, 10, 111, 117, 116, 32, 114, 48] ++ Lib.strCells ⟨#[10]⟩ = Lib.byteCells [105, 110, 32, 49, 32, 114, 101, 103, 115, 32, 49, 10, 111, 117, 116, 32, 114, 48, 10] from by kernel_rfl] at hI
  replace BY := hide hI
  replace PX := hide (PX.out.below hb LW.out)
  replace HB := hide (HB.out.trans (hb.mono WL.out))
  clear hI hb
  go_wp2_with fail
  refine (Tryd.Builder_String b b _ _ BY.out (by decide)).mono ?_
  rintro e w11 ⟨rfl, hb⟩
  replace HB := hide (HB.out.trans (hb.mono WL.out))
  clear hb
  go_wp2
  go_ret2
  exact ⟨rfl, HB.out⟩

set_option maxRecDepth 100000 in
set_option maxHeartbeats 4000000 in
theorem live_any (w : World) : Calls Tryd.prog 17 #[] w fun e w' => e = .returned (.bool true) ∧ Below w.heap.size w w' := by
  go_enter Tryd.func17, Tryd.ntmps17
  go_wp2_with fail
  refine (live_text w.heap.size _ (Lib.cell_of_heap (heap_alloc_new w _) 0)).mono ?_
  rintro e w1 ⟨rfl, hb⟩
  replace hb := (below_alloc _ _).trans (hb.mono (by rw [World.size_alloc]; omega))
  go_wp2
  go_ret
  exact ⟨rfl, hb⟩
end Go.Proofs.YteogbhgogiaocaaDoor
