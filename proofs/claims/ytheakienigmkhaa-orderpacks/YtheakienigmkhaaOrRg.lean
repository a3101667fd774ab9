/- order.registersOf; an instruction with other registers, by what it asks. -/
import Derived.Test.YtheakienigmkhaaOrGv
import Derived.Test.YtheakienigmkhaaCalmL
import Derived.Deep.Cut
namespace Go.Proofs.Ytheakienigmkhaa
open Go.RowKit Go.Shelf

theorem moved_any (i : Ins) (regs t : Int) (of : List Int) (gA : Nat) (w : World) (hi : mayB i regs = true) (hA : IArr w gA (gvL of (asksL i))) :
    Calls Try.prog 55 #[.agg #[.int .i64 i.op, .int .i64 i.to, .int .i64 i.a, .int .i64 i.b, .int .i64 i.c], .int .i64 t, .slice (some ⟨gA, 0, none⟩) (asksL i).length (asksL i).length] w fun e w' => e = .returned (.agg #[.int .i64 i.op, .int .i64 t, .int .i64 (mvd i t of).a, .int .i64 (mvd i t of).b, .int .i64 i.c]) ∧ Below w.heap.size w w' := by
  have hp := may_parts hi
  cases h2 : twoB i.op with
  | true =>
    have e : asksL i = [i.a, i.b] := by unfold asksL; exact if_pos (by unfold twoB at h2; simpa using h2)
    rw [e] at hA ⊢
    have hb : (mvd i t of).b = ot of i.b.toNat := by unfold mvd; dsimp only; rw [if_pos h2]
    rw [hb]
    exact moved_two i t (ot of i.a.toNat) (ot of i.b.toNat) gA w hA
  | false =>
    have e : asksL i = [i.a] := by unfold asksL; rw [if_neg (by unfold twoB at h2; simpa using h2)]; exact if_pos (by omega)
    rw [e] at hA ⊢
    have hb : (mvd i t of).b = i.b := by
      unfold mvd; dsimp only; rw [if_neg (by rw [h2]; decide)]
      rcases hp.2.2.2.2.2.2.2.2.2 with h | h
      · exact h.symm
      · rw [h2] at h; cases h
    rw [hb]
    exact moved_one i t (ot of i.a.toNat) gA w hA
theorem maxOf_mx {l : List Int} (h : l ≠ []) (h0 : ∀ x ∈ l, 0 ≤ x) : Lib.maxOf l = mxL l := by
  cases l with
  | nil => exact absurd rfl h
  | cons x t =>
    have hx := h0 x (by simp)
    show List.foldl max x (x :: t) = List.foldl max 0 (x :: t)
    simp only [List.foldl_cons]
    rw [show max x x = x by omega, show max 0 x = x by omega]
theorem max_any (l : List Int) (v : Value) (w : World) (hv : IntsAt w v l) (h : l ≠ []) (h0 : ∀ x ∈ l, 0 ≤ x) (hl : l.length ≤ 100000) :
    Calls Try.prog 56 #[v] w fun e w' => e = .returned (.int .i64 (mxL l)) ∧ Below w.heap.size w w' := by
  obtain ⟨a, c, rfl, _, _, h3⟩ := hv
  obtain ⟨b, off, rfl, hc⟩ := h3 h
  have hpos : 0 < l.length := List.length_pos_iff.2 h
  refine (Try.slices_Max_int b off l.length c l w hpos (Nat.le_refl _) (by omega) (fun j hj => hc j hj)).mono ?_
  rintro e w' ⟨rfl, rfl⟩
  rw [List.take_length, maxOf_mx h h0]
  exact ⟨rfl, Below.refl _ _⟩
theorem cfold_snoc (code : List Ins) (i : Ins) (a : Int) : cfold (code ++ [i]) a = max (cfold code a) (max i.to (mxL (asksL i))) := by unfold cfold; rw [List.foldl_append]; rfl
set_option maxRecDepth 100000 in
set_option maxHeartbeats 8000000 in
theorem regsof_any (v : Value) (p : Pg) (w : World) (h : PgAt w v p) (hi : 0 ≤ p.ins ∧ p.ins ≤ 1000) (ho : p.outs ≠ [] ∧ p.outs.length ≤ 1000 ∧ ∀ x ∈ p.outs, 0 ≤ x ∧ x ≤ 1000) (hcl : p.code.length ≤ 100000) (hc : ∀ i ∈ p.code, 1 ≤ i.op ∧ i.op ≤ 8 ∧ 0 ≤ i.to ∧ i.to ≤ 1000 ∧ ∀ x ∈ asksL i, 0 ≤ x ∧ x ≤ 1000) :
    Calls Try.prog 34 #[v] w fun e w' => e = .returned (.int .i64 (regsOf p.ins p.code p.outs)) ∧ Below w.heap.size w w' := by
  have HI := hide hi
  have HO := hide ho
  have HC := hide hc
  obtain ⟨ca, cc, oa, oc, rfl, hcc, hoo⟩ := h
  have KC := hide hcc
  have KO := hide hoo
  clear hcc hoo hi ho hc
  go_enter Try.func34, Try.ntmps34
  go_upto_region 1 with fail
  have b1 := below_alloc w (.cells #[.int .i64 p.ins, .int .i64 p.regs, .slice ca p.code.length cc, .slice oa p.outs.length oc] 25)
  have PX := hide (Box4.new w 25 (.int .i64 p.ins) (.int .i64 p.regs) (.slice ca p.code.length cc) (.slice oa p.outs.length oc))
  replace KC := hide (KC.out.below b1)
  replace KO := hide (KO.out.below b1)
  have HB := hide b1
  clear b1
  generalize w.alloc (.cells #[.int .i64 p.ins, .int .i64 p.regs, .slice ca p.code.length cc, .slice oa p.outs.length oc] 25) = w1 at *
  obtain ⟨B, hB⟩ : ∃ B, B = w.heap.size := ⟨_, rfl⟩
  have HZ := hide hB
  rw [← hB] at PX ⊢
  clear hB
  have hi1 := HI.out.1
  have hi2 := HI.out.2
  have hwr : IntKind.i64.wrap (p.ins - 1) = p.ins - 1 := by rw [IntKind.wrap_i64]; omega
  refine wp_calm (fun w' => Below w1.heap.size w1 w') (fun _ => true) 8 #[false, false, false, false, false, false, false, false] (by kernel_rfl) rfl rfl ?_
  have HF := hide ((Below.refl w1.heap.size w1).drew)
  generalize w1.drew = w1d at *
  refine Calm.takeL 8 (i := 0) (v := ?_) (a' := ?_) (l' := #[true, false, false, false, false, false, false, false]) (d := some 6) (by kernel_rfl) rfl (by kernel_rfl) (by kernel_rfl) (by kernel_rfl) (by kernel_rfl) (fun _ _ _ h => h) HF.out rfl ?_ rfl rfl ?_ ?_
  rotate_left
  · intro w' hF; clear hF; go_simp; try rfl
  rotate_left
  · simp only [Act.put]; exact rfl
  refine Calm.takeL 8 (i := 1) (v := ?_) (a' := ?_) (l' := #[true, true, false, false, false, false, false, false]) (d := some 7) (by kernel_rfl) rfl (by kernel_rfl) (by kernel_rfl) (by kernel_rfl) (by kernel_rfl) (fun _ _ _ h => h) HF.out rfl ?_ rfl rfl ?_ ?_
  rotate_left
  · intro w' hF; have c0 := (PX.out.step hF).cell0; have c3 := (PX.out.step hF).cell3; clear hF; go_simp; try rfl
  rotate_left
  · simp only [Act.put]; exact rfl
  refine Calm.takeL 8 (i := 2) (v := ?_) (a' := ?_) (l' := #[true, true, true, false, false, false, false, false]) (d := some 8) (by kernel_rfl) rfl (by kernel_rfl) (by kernel_rfl) (by kernel_rfl) (by kernel_rfl) (fun _ _ _ h => h) HF.out rfl ?_ rfl rfl ?_ ?_
  rotate_left
  · intro w' hF; clear hF; go_simp; try rfl
  rotate_left
  · simp only [Act.put]; exact rfl
  refine Calm.takeL 8 (i := 3) (v := ?_) (a' := ?_) (l' := #[true, true, true, true, false, false, false, false]) (d := some 9) (by kernel_rfl) rfl (by kernel_rfl) (by kernel_rfl) (by kernel_rfl) (by kernel_rfl) (fun _ _ _ h => h) HF.out rfl ?_ rfl rfl ?_ ?_
  rotate_left
  · intro w' hF; clear hF; go_simp; try rfl
  rotate_left
  · simp only [Act.put]; exact rfl
  refine Calm.takeL 8 (i := 4) (v := ?_) (a' := ?_) (l' := #[true, true, true, true, true, false, false, false]) (d := some 10) (by kernel_rfl) rfl (by kernel_rfl) (by kernel_rfl) (by kernel_rfl) (by kernel_rfl) (fun _ _ _ h => h) HF.out rfl ?_ rfl rfl ?_ ?_
  rotate_left
  · intro w' hF; have c0 := (PX.out.step hF).cell0; have c3 := (PX.out.step hF).cell3; clear hF; go_simp; try rfl
  rotate_left
  · simp only [Act.put]; exact rfl
  refine Calm.one (i := 5) (l' := #[true, true, true, true, true, true, false, false]) (by kernel_rfl) rfl rfl rfl fun K hK => ?_
  go_simp
  refine (max_any p.outs _ _ (KO.out.below HF.out) HO.out.1 (fun x hx => (HO.out.2.2 x hx).1) (by have := HO.out.2.1; omega)).mono ?_
  rintro e x1 ⟨rfl, hb⟩
  have HF' := hide (HF.out.trans ((hb).mono HF.out.size))
  refine hK _ _ (fun _ => HF'.out) ?_
  clear hK K HF hb
  have HF := hide HF'.out
  clear HF'
  refine Calm.takeL 8 (i := 6) (v := ?_) (a' := ?_) (l' := #[true, true, true, true, true, true, true, false]) (d := some 12) (by kernel_rfl) rfl (by kernel_rfl) (by kernel_rfl) (by kernel_rfl) (by kernel_rfl) (fun _ _ _ h => h) HF.out rfl ?_ rfl rfl ?_ ?_
  rotate_left
  · intro w' hF; clear hF; go_simp; try rfl
  rotate_left
  · simp only [Act.put]; exact rfl
  refine Calm.takeL 8 (i := 7) (v := ?_) (a' := ?_) (l' := #[true, true, true, true, true, true, true, true]) (d := some 3) (by kernel_rfl) rfl (by kernel_rfl) (by kernel_rfl) (by kernel_rfl) (by kernel_rfl) (fun _ _ _ h => h) HF.out rfl ?_ rfl rfl ?_ ?_
  rotate_left
  · intro w' hF; clear hF; go_simp; try rfl
  rotate_left
  · simp only [Act.put]; exact rfl
  refine Calm.done (by kernel_rfl) ?_
  try simp only [List.setIfInBounds_toArray, List.set_cons_succ, List.set_cons_zero]
  have hb := HF.out
  replace PX := hide (PX.out.step hb)
  replace KC := hide (KC.out.below hb)
  replace HB := hide (HB.out.trans (hb.mono HB.out.size))
  clear hb HF KO
  obtain ⟨a0, ha0⟩ : ∃ a0, a0 = max (p.ins - 1) (mxL p.outs) := ⟨_, rfl⟩
  try rw [← ha0]
  have HA0 := hide ha0
  have BA : Hid (0 ≤ a0 ∧ a0 ≤ 1000) := hide (by have h1 := mxL_le (l := p.outs) (b := 1000) (by omega) (fun x hx => (HO.out.2.2 x hx).2); have h2 := foldl_max_ge p.outs 0; have h3 : 0 ≤ mxL p.outs := h2; omega)
  clear ha0 hi1 hi2 hwr
  have c2 := PX.out.cell2
  go_wp2
  clear c2
  go_loopw [3, 5, 16] (fun mv _ kv wr => ∃ k : Nat, k ≤ p.code.length ∧ kv = .int .i64 k ∧ mv = .int .i64 (cfold (p.code.take k) a0) ∧ Below x1.heap.size x1 wr) (fun _ _ kv _ => p.code.length - (intOf kv).toNat)
  case atStart => exact ⟨0, Nat.zero_le _, rfl, rfl, Below.refl _ _⟩
  case round =>
    obtain ⟨k, hk, rfl, rfl, hb⟩ := hrel
    have WB := hide hb
    clear hb
    obtain ⟨wl, hwl⟩ : ∃ wl, wl = wr := ⟨_, rfl⟩
    subst hwl
    have BC : Hid (0 ≤ cfold (p.code.take k) a0 ∧ cfold (p.code.take k) a0 ≤ 1000) := hide ⟨Int.le_trans BA.out.1 (cfold_ge _ _), cfold_le _ _ _ BA.out.2 (fun i hi => by have h := HC.out i (List.mem_of_mem_take hi); have h2 := mxL_le (l := asksL i) (b := 1000) (by omega) (fun x hx => (h.2.2.2.2 x hx).2); omega)⟩
    by_cases hlt : k < p.code.length
    · obtain ⟨b1, o1, rfl, hic⟩ := CodeAt.at (KC.out.below WB.out) hlt
      have TK : Hid (p.code.take (k + 1) = p.code.take k ++ [cd p.code k]) := hide (by rw [List.take_succ_eq_append_getElem hlt, cd_lt hlt])
      have HCI := hide (HC.out (cd p.code k) (by rw [cd_lt hlt]; exact List.getElem_mem _))
      generalize cd p.code k = i at *
      obtain ⟨op, t, a, b, c⟩ := i
      have i0 := hic.cell0
      have i1 := hic.cell1
      have i2 := hic.cell2
      have i3 := hic.cell3
      have i4 := hic.cell4
      dsimp only at i0 i1 i2 i3 i4
      clear hic
      go_upto_region 5 with fail
      have al := below_alloc wl (.cells #[.int .i64 op, .int .i64 t, .int .i64 a, .int .i64 b, .int .i64 c] 40)
      have IX : Hid (Box5 (wl.alloc (.cells #[.int .i64 op, .int .i64 t, .int .i64 a, .int .i64 b, .int .i64 c] 40)) wl.heap.size 40 ⟨op, t, a, b, c⟩) := hide (Box5.new wl 40 ⟨op, t, a, b, c⟩)
      replace WB := hide (WB.out.trans (al.mono WB.out.size))
      clear al i0 i1 i2 i3 i4
      generalize wl.alloc (.cells #[.int .i64 op, .int .i64 t, .int .i64 a, .int .i64 b, .int .i64 c] 40) = w4 at *
      generalize wl.heap.size = Xb at *
      obtain ⟨m0, hm0⟩ : ∃ m0, m0 = cfold (p.code.take k) a0 := ⟨_, rfl⟩
      rw [← hm0] at BC ⊢
      have HM0 := hide hm0
      clear hm0
      refine wp_calm (fun w' => Below w4.heap.size w4 w') (fun _ => true) 8 #[false, false, false, false, false, false, false, false] (by kernel_rfl) rfl rfl ?_
      have HF := hide ((Below.refl w4.heap.size w4).drew)
      generalize w4.drew = w4d at *
      refine Calm.takeL 8 (i := 0) (v := ?_) (a' := ?_) (l' := #[true, false, false, false, false, false, false, false]) (d := some 20) (by kernel_rfl) rfl (by kernel_rfl) (by kernel_rfl) (by kernel_rfl) (by kernel_rfl) (fun _ _ _ h => h) HF.out rfl ?_ rfl rfl ?_ ?_
      rotate_left
      · intro w' hF; clear hF; go_simp; try rfl
      rotate_left
      · simp only [Act.put]; exact rfl
      refine Calm.takeL 8 (i := 1) (v := ?_) (a' := ?_) (l' := #[true, true, false, false, false, false, false, false]) (d := some 21) (by kernel_rfl) rfl (by kernel_rfl) (by kernel_rfl) (by kernel_rfl) (by kernel_rfl) (fun _ _ _ h => h) HF.out rfl ?_ rfl rfl ?_ ?_
      rotate_left
      · intro w' hF; clear hF; go_simp; try rfl
      rotate_left
      · simp only [Act.put]; exact rfl
      refine Calm.takeL 8 (i := 2) (v := ?_) (a' := ?_) (l' := #[true, true, true, false, false, false, false, false]) (d := some 22) (by kernel_rfl) rfl (by kernel_rfl) (by kernel_rfl) (by kernel_rfl) (by kernel_rfl) (fun _ _ _ h => h) HF.out rfl ?_ rfl rfl ?_ ?_
      rotate_left
      · intro w' hF; have y0 := (IX.out.step hF).cells.cell0; have y1 := (IX.out.step hF).cells.cell1; have y2 := (IX.out.step hF).cells.cell2; have y3 := (IX.out.step hF).cells.cell3; have y4 := (IX.out.step hF).cells.cell4; simp only [Nat.zero_add] at y1 y2 y3 y4; clear hF; go_simp; try rfl
      rotate_left
      · simp only [Act.put]; exact rfl
      refine Calm.takeL 8 (i := 3) (v := ?_) (a' := ?_) (l' := #[true, true, true, true, false, false, false, false]) (d := some 23) (by kernel_rfl) rfl (by kernel_rfl) (by kernel_rfl) (by kernel_rfl) (by kernel_rfl) (fun _ _ _ h => h) HF.out rfl ?_ rfl rfl ?_ ?_
      rotate_left
      · intro w' hF; have y0 := (IX.out.step hF).cells.cell0; have y1 := (IX.out.step hF).cells.cell1; have y2 := (IX.out.step hF).cells.cell2; have y3 := (IX.out.step hF).cells.cell3; have y4 := (IX.out.step hF).cells.cell4; simp only [Nat.zero_add] at y1 y2 y3 y4; clear hF; go_simp; try rfl
      rotate_left
      · simp only [Act.put]; exact rfl
      refine Calm.one (i := 4) (l' := #[true, true, true, true, true, false, false, false]) (by kernel_rfl) rfl rfl rfl fun K hK => ?_
      go_simp
      refine (asks_any ⟨op, t, a, b, c⟩ _).mono ?_
      rintro e x2 ⟨⟨va, rfl, hva⟩, hb⟩
      have VA := hide hva
      clear hva
      have HF' := hide (HF.out.trans ((hb).mono HF.out.size))
      refine hK _ _ (fun _ => HF'.out) ?_
      clear hK K HF hb
      have HF := hide HF'.out
      clear HF'
      refine Calm.one (i := 5) (l' := #[true, true, true, true, true, true, false, false]) (by kernel_rfl) rfl rfl rfl fun K hK => ?_
      go_simp
      refine (max_any _ _ _ VA.out (fun e => by have h := HCI.out; unfold asksL at e; dsimp only at e h; split at e; (cases e); (rw [if_pos (by omega)] at e; cases e)) (fun x hx => (HCI.out.2.2.2.2 x hx).1) (by have := asks_two ⟨op, t, a, b, c⟩; omega)).mono ?_
      rintro e x3 ⟨rfl, hb⟩
      clear VA
      have HF' := hide (HF.out.trans ((hb).mono HF.out.size))
      refine hK _ _ (fun _ => HF'.out) ?_
      clear hK K HF hb
      have HF := hide HF'.out
      clear HF'
      refine Calm.takeL 8 (i := 6) (v := ?_) (a' := ?_) (l' := #[true, true, true, true, true, true, true, false]) (d := some 26) (by kernel_rfl) rfl (by kernel_rfl) (by kernel_rfl) (by kernel_rfl) (by kernel_rfl) (fun _ _ _ h => h) HF.out rfl ?_ rfl rfl ?_ ?_
      rotate_left
      · intro w' hF; clear hF; go_simp; try rfl
      rotate_left
      · simp only [Act.put]; exact rfl
      refine Calm.takeL 8 (i := 7) (v := ?_) (a' := ?_) (l' := #[true, true, true, true, true, true, true, true]) (d := some 3) (by kernel_rfl) rfl (by kernel_rfl) (by kernel_rfl) (by kernel_rfl) (by kernel_rfl) (fun _ _ _ h => h) HF.out rfl ?_ rfl rfl ?_ ?_
      rotate_left
      · intro w' hF; clear hF; go_simp; try rfl
      rotate_left
      · simp only [Act.put]; exact rfl
      refine Calm.done (by kernel_rfl) ?_
      try simp only [List.setIfInBounds_toArray, List.set_cons_succ, List.set_cons_zero]
      have W5 := hide (WB.out.trans (HF.out.mono WB.out.size))
      clear HF IX WB
      go_wp2
      go_roundw
      case rel =>
        refine ⟨k + 1, by omega, by go_num, ?_, W5.out⟩
        rw [TK.out, cfold_snoc, ← HM0.out]
        refine congrArg _ ?_
        dsimp only
        by_cases hmt : m0 < t
        · rw [if_pos hmt]; split <;> omega
        · rw [if_neg hmt]; split <;> omega
      case measure => simp [intOf]; omega
    · have e : k = p.code.length := by omega
      subst e
      rw [List.take_length] at BC ⊢
      have bc1 := BC.out.1
      have bc2 := BC.out.2
      obtain ⟨m0, hm0⟩ : ∃ m0, m0 = cfold p.code a0 := ⟨_, rfl⟩
      rw [← hm0] at bc1 bc2 ⊢
      have HM0 := hide hm0
      clear hm0 BC
      go_wp2
      go_ret
      exact ⟨by rw [regsOf_cfold, ← HA0.out, ← HM0.out]; first | rfl | simp, HB.out.trans (WB.out.mono HB.out.size)⟩
end Go.Proofs.Ytheakienigmkhaa
