/- A variable that holds a number of the document's; how many digits numbers have; integer.Int's Times. -/
import Derived.Test.YthlkfiocmahmoaaR2Mul
namespace Go.Proofs.Ythlkfiocmahmoaa
open Go.RowKit

structure RVar (w : World) (g : Nat) (s : Bool) (m : Option Addr) (n c : Nat) (z : Int) : Prop where
  box : Box2 w g 30 (.bool s) (.slice m n c)
  int : RInt w (.agg #[.bool s, .slice m n c]) z
theorem RVar.step {w w' : World} {g : Nat} {s : Bool} {m : Option Addr} {n c : Nat} {z : Int} (h : RVar w g s m n c z) (hb : Below w.heap.size w w') : RVar w' g s m n c z := ⟨h.box.step hb, h.int.below hb⟩
theorem RVar.drew {w : World} {g : Nat} {s : Bool} {m : Option Addr} {n c : Nat} {z : Int} (h : RVar w g s m n c z) : RVar w.drew g s m n c z := ⟨h.box.drew, h.int.drew⟩
theorem RInt.var {w : World} {s : Bool} {m : Option Addr} {n c : Nat} {z : Int} (h : RInt w (.agg #[.bool s, .slice m n c]) z) : RVar (w.alloc (.cells #[.bool s, .slice m n c] 30)) w.heap.size s m n c z := ⟨Box2.new _ _ _ _, h.below (below_alloc _ _)⟩

theorem SzI.dlen {k : Nat} {z : Int} (h : SzI k z) (hk : 2 * k ≤ 100000000) : (D.lim z.natAbs).length ≤ 100000000 := by
  refine Nat.le_trans (D.lim_length_le (k := 2 * k) ?_) hk
  have : BB ^ k = D.BB ^ (2 * k) := bb_pow k
  unfold SzI at h
  rw [← this]; exact h
theorem SzI.word {c : Int} (hlo : -9223372036854775808 ≤ c) (hhi : c ≤ 9223372036854775807) : SzI 2 c := by
  unfold SzI BB; omega
theorem SzI.abs {k : Nat} {z : Int} (h : SzI k z) : SzI k (z.natAbs : Int) := by
  unfold SzI at *; simpa using h

set_option maxRecDepth 100000 in
set_option maxHeartbeats 1000000 in
theorem itimes_any (v : Value) (x c : Int) (w : World) (h : IntAt w v x) (l1 : (lim x.natAbs).length ≤ 1000000000) (hlo : -9223372036854775808 ≤ c) (hhi : c ≤ 9223372036854775807) :
    Calls Try.prog 19 #[v, .int .i64 c] w fun e w' => ∃ v', e = .returned v' ∧ IntAt w' v' (x * c) ∧ Below w.heap.size w w' := by
  have I1 := hide h
  have HL := hide hlo
  have HH := hide hhi
  obtain ⟨b1, n1, a1, c1, rfl, hn1, e1, h01⟩ := h
  have HE := hide (boxes2 w (.bool b1) (.slice a1 (lim n1).length c1) (.bool false) (.slice none 0 0))
  replace I1 := hide (I1.out.below HE.out.2.2)
  clear hn1 h01 e1
  go_enter Try.func19, Try.ntmps19
  go_wp2_with fail
  refine wp_calm (fun w' => Box w' w.heap.size (.bool b1) (.slice a1 (lim n1).length c1)) (fun j => j != 4) 5 #[false, false, false, false, false] (by kernel_rfl) rfl rfl ?_
  have HF := hide (HE.out.1.drew)
  refine Calm.take (i := 0) (v := ?_) (a' := ?_) (l' := #[true, false, false, false, false]) (d := some 5) rfl (by kernel_rfl) (by kernel_rfl) (by kernel_rfl) (by kernel_rfl) (fun _ _ _ h => h) HF.out rfl ?_ rfl rfl ?_ ?_
  rotate_left
  · intro w' hF; have f0 := hF.cell0; have f1 := hF.cell1; clear hF; go_simp; try rfl
  rotate_left
  · simp only [Act.put]; exact rfl
  refine Calm.take (i := 1) (v := ?_) (a' := ?_) (l' := #[true, true, false, false, false]) (d := some 6) rfl (by kernel_rfl) (by kernel_rfl) (by kernel_rfl) (by kernel_rfl) (fun _ _ _ h => h) HF.out rfl ?_ rfl rfl ?_ ?_
  rotate_left
  · intro w' hF; have f0 := hF.cell0; have f1 := hF.cell1; clear hF; go_simp; try rfl
  rotate_left
  · simp only [Act.put]; exact rfl
  refine Calm.one (i := 2) (l' := #[true, true, true, false, false]) (by kernel_rfl) rfl rfl rfl fun K hK => ?_
  go_simp
  refine (iof_any c _ HL.out HH.out).mono ?_
  rintro e w1 ⟨v1, rfl, m1, hb1⟩
  have HM1 := hide m1
  have HR := hide (HE.out.2.1.drew.step hb1)
  have HB1 := hide (HE.out.2.2.trans ((Below.refl _ _).drew.trans (hb1.mono HE.out.2.2.size)))
  replace I1 := hide (I1.out.drew.below hb1)
  have HF' := hide (HF.out.step hb1)
  refine hK _ _ (fun _ => HF'.out) ?_
  clear hK K HF
  have HF := hide HF'.out
  clear HF'
  refine Calm.one (i := 3) (l' := #[true, true, true, true, false]) (by kernel_rfl) rfl rfl rfl fun K hK => ?_
  go_simp
  refine (imul_any _ _ x c _ I1.out HM1.out l1 (SzI.len (SzI.word HL.out HH.out) (by decide))).mono ?_
  rintro e w2 ⟨v, rfl, ⟨b', n', a', c', rfl, hn', he, h0⟩, hb2⟩
  have HX := hide (HR.out.step hb2)
  have HB2 := hide (HB1.out.trans (hb2.mono HB1.out.size))
  have HF' := hide (HF.out.step hb2)
  refine hK _ _ (fun _ => HF'.out) ?_
  clear hK K HF
  have HF := hide HF'.out
  clear HF'
  refine Calm.one (i := 4) (l' := #[true, true, true, true, true]) (by kernel_rfl) rfl rfl rfl fun K hK => ?_
  have hc0 := HX.out.cell0
  have hc1 := HX.out.cell1
  have hf0 := HX.out.free 0
  have hf1 := HX.out.free 1
  go_simp
  refine hK _ _ (fun h => absurd h (by decide)) ?_
  clear hK K
  refine Calm.done (by kernel_rfl) ?_
  go_wp2
  refine ret_int rfl (w.heap.size + 1) _ _ _ _ rfl ((HX.out.set0 _).set1 _) rfl ?_
  exact handed HX.out (by simp) (by simp) (by omega) HB2.out hn' he h0
end Go.Proofs.Ythlkfiocmahmoaa
