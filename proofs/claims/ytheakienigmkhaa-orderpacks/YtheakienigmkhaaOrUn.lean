/- swageref16.Until: how long a value is asked. -/
import Derived.Test.YtheakienigmkhaaOrHe
import Derived.Test.YtheakienigmkhaaCalmL
import Derived.Test.YtheakienigmkhaaCalmT
namespace Go.Proofs.Ytheakienigmkhaa
open Go.RowKit
attribute [local go_sem] Oper.semAt_some

theorem mem_snoc {l : List Int} {a : Nat} (h : a < l.length) {P : Int → Prop} (h1 : ∀ o ∈ l.take a, P o) (h2 : P (ot l a)) : ∀ o ∈ l.take (a + 1), P o := fun o ho => by
  rw [List.take_succ_eq_append_getElem h] at ho
  rcases List.mem_append.1 ho with q | q
  · exact h1 o q
  · have e : o = l[a] := by simpa using q
    rw [e]
    have e2 : ot l a = l[a] := by unfold ot; simp [h]
    rwa [e2] at h2
theorem untF_here {p : Pg} {v : Int} {a : Nat} (h : a < p.outs.length) (h2 : heldF p p.code.length (ot p.outs a) = v) : untF p v = p.code.length := by
  unfold untF
  rw [if_pos ⟨_, (by unfold ot; simp [h]), h2⟩]
theorem untF_code {p : Pg} {v : Int} (h : ∀ o ∈ p.outs, heldF p p.code.length o ≠ v) : untF p v = lastF p v p.code.length := by
  unfold untF
  rw [if_neg (fun ⟨o, h1, h2⟩ => h o h1 h2)]
theorem lastF_here {p : Pg} {v : Int} {k a : Nat} (h : a < (asksL (cd p.code k)).length) (hs : setA p k ≠ -1) (h2 : heldF p k (ot (asksL (cd p.code k)) a) = v) : lastF p v (k + 1) = k := by
  simp only [lastF]
  rw [if_pos ⟨hs, _, (by unfold ot; simp [h]), h2⟩]
theorem lastF_next {p : Pg} {v : Int} {k : Nat} (h : setA p k = -1 ∨ ∀ a ∈ asksL (cd p.code k), heldF p k a ≠ v) : lastF p v (k + 1) = lastF p v k := by
  simp only [lastF]
  rw [if_neg (fun ⟨h1, a, h2, h3⟩ => h.elim h1 (fun h => h a h2 h3))]
set_option maxRecDepth 100000 in
set_option maxHeartbeats 16000000 in
theorem until_any (v nv : Value) (p : Pg) (w : World) (h : PgAt w v p) (hn : BoolsAt w nv (ndL p)) (hr : rightB p = true) (hk2 : p.code.length ≤ 400) (x : Int) (hx : -100000 ≤ x ∧ x ≤ 100000) :
    Calls Try.prog 36 #[v, nv, .int .i64 x] w fun e w' => e = .returned (.int .i64 (untF p x)) ∧ Below w.heap.size w w' := by
  have HP := hide h
  have KN := hide hn
  have HRR := hide hr
  have LN := hide hk2
  have HX := hide hx
  obtain ⟨ca, cc, oa, oc, rfl, hc, ho⟩ := h
  obtain ⟨na, nc, rfl, _, _, _⟩ := id hn
  rw [ndL_lengthO] at KN ⊢
  have KC := hide hc
  have KO := hide ho
  clear hc ho hn hr hk2 hx
  go_enter Try.func36, Try.ntmps36
  go_upto_region 1 with fail
  have hb := below_alloc w (.cells #[.int .i64 p.ins, .int .i64 p.regs, .slice ca p.code.length cc, .slice oa p.outs.length oc] 25)
  have PX := hide (Box4.new w 25 (.int .i64 p.ins) (.int .i64 p.regs) (.slice ca p.code.length cc) (.slice oa p.outs.length oc))
  replace HP := hide (HP.out.below hb)
  replace KN := hide (KN.out.below hb)
  replace KC := hide (KC.out.below hb)
  replace KO := hide (KO.out.below hb)
  have HB := hide hb
  clear hb
  generalize w.alloc (.cells #[.int .i64 p.ins, .int .i64 p.regs, .slice ca p.code.length cc, .slice oa p.outs.length oc] 25) = w1 at *
  obtain ⟨B, hB⟩ : ∃ B, B = w.heap.size := ⟨_, rfl⟩
  have HZ := hide hB
  rw [← hB] at PX ⊢
  clear hB
  have WB := hide (Below.refl w1.heap.size w1)
  have c0 := PX.out.cell0
  have c1 := PX.out.cell1
  have c2 := PX.out.cell2
  have c3 := PX.out.cell3
  go_wp2
  go_loopw [6, 8] (fun _ av wr => ∃ a : Nat, a ≤ p.outs.length ∧ av = .int .i64 (a : Nat) ∧ Below w1.heap.size w1 wr ∧ ∀ o ∈ p.outs.take a, heldF p p.code.length o ≠ x) (fun _ av _ => p.outs.length - (intOf av).toNat)
  case atStart => exact ⟨0, Nat.zero_le _, rfl, WB.out, fun o h => by simp at h⟩
  case round =>
    clear WB c0 c1 c2 c3
    obtain ⟨a, ha, rfl, hb, hq⟩ := hrel
    have WB := hide hb
    have HQ := hide hq
    clear hb hq
    have lo : p.outs.length ≤ 128 := (right_parts HRR.out).2.2.2.2.2.1
    by_cases al : a < p.outs.length
    · have c3 := (PX.out.step WB.out).cell3
      have KA : Hid (∃ b off, oa = some ⟨b, off, none⟩ ∧ ∀ w', Below w1.heap.size w1 w' → w'.cell? ⟨b, off + a, none⟩ = some (.int .i64 (ot p.outs a))) := hide (by
        obtain ⟨b, off, e, _⟩ := KO.out.at al
        refine ⟨b, off, e, fun w' hb => ?_⟩
        obtain ⟨b2, o2, e2, h⟩ := (KO.out.below hb).at al
        rw [e] at e2; cases e2; exact h)
      obtain ⟨b, off, rfl, ka⟩ := KA.out
      replace KA := hide ka
      clear ka
      have qb := out_toNat HRR.out (show ot p.outs a ∈ p.outs by unfold ot; simp [al])
      have rm := (right_parts HRR.out).2.2.1
      have QB : Hid (-100000 ≤ ot p.outs a ∧ ot p.outs a ≤ 100000) := hide (by omega)
      have AL := hide al
      obtain ⟨q, hq⟩ : ∃ q, q = ot p.outs a := ⟨_, rfl⟩
      have QE := hide hq
      rw [← hq] at KA QB
      clear hq qb rm
      obtain ⟨y, hy⟩ : ∃ y, heldF p p.code.length q = y := ⟨_, rfl⟩
      have HY := hide hy
      clear hy
      go_upto_region 5 with fail
      refine wp_calm (fun w' => Below w1.heap.size w1 w') (fun _ => true) 11 #[false, false, false, false, false, false, false, false, false, false, false] (by kernel_rfl) rfl rfl ?_
      have HF := hide (WB.out.drew)
      generalize wr.drew = wrd at *
      refine Calm.take (i := 0) (v := ?_) (a' := ?_) (l' := #[true, false, false, false, false, false, false, false, false, false, false]) (d := some 22) rfl (by kernel_rfl) (by kernel_rfl) (by kernel_rfl) (by kernel_rfl) (fun _ _ _ h => h) HF.out rfl ?_ rfl rfl ?_ ?_
      rotate_left
      · intro w' hF; have c0 := (PX.out.step hF).cell0; have c1 := (PX.out.step hF).cell1; have c2 := (PX.out.step hF).cell2; have c3 := (PX.out.step hF).cell3; have k1 := KA.out _ hF; clear hF; go_simp; try rfl
      rotate_left
      · simp only [Act.put]; exact rfl
      refine Calm.take (i := 1) (v := ?_) (a' := ?_) (l' := #[true, true, false, false, false, false, false, false, false, false, false]) (d := some 23) rfl (by kernel_rfl) (by kernel_rfl) (by kernel_rfl) (by kernel_rfl) (fun _ _ _ h => h) HF.out rfl ?_ rfl rfl ?_ ?_
      rotate_left
      · intro w' hF; clear hF; go_simp; try rfl
      rotate_left
      · simp only [Act.put]; exact rfl
      refine Calm.take (i := 2) (v := ?_) (a' := ?_) (l' := #[true, true, true, false, false, false, false, false, false, false, false]) (d := some 24) rfl (by kernel_rfl) (by kernel_rfl) (by kernel_rfl) (by kernel_rfl) (fun _ _ _ h => h) HF.out rfl ?_ rfl rfl ?_ ?_
      rotate_left
      · intro w' hF; clear hF; go_simp; try rfl
      rotate_left
      · simp only [Act.put]; exact rfl
      refine Calm.take (i := 3) (v := ?_) (a' := ?_) (l' := #[true, true, true, true, false, false, false, false, false, false, false]) (d := some 25) rfl (by kernel_rfl) (by kernel_rfl) (by kernel_rfl) (by kernel_rfl) (fun _ _ _ h => h) HF.out rfl ?_ rfl rfl ?_ ?_
      rotate_left
      · intro w' hF; clear hF; go_simp; try rfl
      rotate_left
      · simp only [Act.put]; exact rfl
      refine Calm.take (i := 4) (v := ?_) (a' := ?_) (l' := #[true, true, true, true, true, false, false, false, false, false, false]) (d := some 26) rfl (by kernel_rfl) (by kernel_rfl) (by kernel_rfl) (by kernel_rfl) (fun _ _ _ h => h) HF.out rfl ?_ rfl rfl ?_ ?_
      rotate_left
      · intro w' hF; have c0 := (PX.out.step hF).cell0; have c1 := (PX.out.step hF).cell1; have c2 := (PX.out.step hF).cell2; have c3 := (PX.out.step hF).cell3; have k1 := KA.out _ hF; clear hF; go_simp; try rfl
      rotate_left
      · simp only [Act.put]; exact rfl
      refine Calm.take (i := 5) (v := ?_) (a' := ?_) (l' := #[true, true, true, true, true, true, false, false, false, false, false]) (d := some 27) rfl (by kernel_rfl) (by kernel_rfl) (by kernel_rfl) (by kernel_rfl) (fun _ _ _ h => h) HF.out rfl ?_ rfl rfl ?_ ?_
      rotate_left
      · intro w' hF; clear hF; go_simp; try rfl
      rotate_left
      · simp only [Act.put]; exact rfl
      refine Calm.take (i := 6) (v := ?_) (a' := ?_) (l' := #[true, true, true, true, true, true, true, false, false, false, false]) (d := some 28) rfl (by kernel_rfl) (by kernel_rfl) (by kernel_rfl) (by kernel_rfl) (fun _ _ _ h => h) HF.out rfl ?_ rfl rfl ?_ ?_
      rotate_left
      · intro w' hF; clear hF; go_simp; try rfl
      rotate_left
      · simp only [Act.put]; exact rfl
      refine Calm.take (i := 7) (v := ?_) (a' := ?_) (l' := #[true, true, true, true, true, true, true, true, false, false, false]) (d := some 29) rfl (by kernel_rfl) (by kernel_rfl) (by kernel_rfl) (by kernel_rfl) (fun _ _ _ h => h) HF.out rfl ?_ rfl rfl ?_ ?_
      rotate_left
      · intro w' hF; have c0 := (PX.out.step hF).cell0; have c1 := (PX.out.step hF).cell1; have c2 := (PX.out.step hF).cell2; have c3 := (PX.out.step hF).cell3; have k1 := KA.out _ hF; clear hF; go_simp; try rfl
      rotate_left
      · simp only [Act.put]; exact rfl
      refine Calm.take (i := 9) (v := ?_) (a' := ?_) (l' := #[true, true, true, true, true, true, true, true, false, true, false]) (d := some 31) rfl (by kernel_rfl) (by kernel_rfl) (by kernel_rfl) (by kernel_rfl) (fun _ _ _ h => h) HF.out rfl ?_ rfl rfl ?_ ?_
      rotate_left
      · intro w' hF; clear hF; go_simp; try rfl
      rotate_left
      · simp only [Act.put]; exact rfl
      refine Calm.one (i := 8) (l' := #[true, true, true, true, true, true, true, true, true, true, false]) (by kernel_rfl) rfl rfl rfl fun K hK => ?_
      go_simp
      skip
      have hh := held_any _ _ p _ (HP.out.below HF.out) (KN.out.below HF.out) p.code.length (Nat.le_refl _) LN.out q QB.out
      rw [HY.out] at hh
      refine hh.mono ?_
      clear hh
      rintro e w3 ⟨rfl, hb⟩
      have HF' := hide (HF.out.trans ((hb).mono HF.out.size))
      refine hK _ _ (fun _ => HF'.out) ?_
      clear hK K HF hb
      have HF := hide HF'.out
      clear HF'
      refine Calm.take (i := 10) (v := ?_) (a' := ?_) (l' := #[true, true, true, true, true, true, true, true, true, true, true]) (d := some 32) rfl (by kernel_rfl) (by kernel_rfl) (by kernel_rfl) (by kernel_rfl) (fun _ _ _ h => h) HF.out rfl ?_ rfl rfl ?_ ?_
      rotate_left
      · intro w' hF; clear hF; go_simp; try rfl
      rotate_left
      · simp only [Act.put]; exact rfl
      refine Calm.done (by kernel_rfl) ?_
      by_cases hq : y = x
      · subst hq
        go_wp2
        go_ret
        exact ⟨by rw [untF_here AL.out (by rw [← QE.out]; exact HY.out)]; try rfl, HB.out.trans (HF.out.mono HB.out.size)⟩
      · have hq2 : (y == x) = false := by simpa using hq
        have QQ := hide (mem_snoc AL.out HQ.out (by rw [← QE.out, HY.out]; exact hq))
        have AL2 := AL.out
        go_wp2
        go_roundw
        case rel => exact ⟨a + 1, by omega, by go_num, HF.out, QQ.out⟩
        case measure => simp [intOf]; omega
    · have e : a = p.outs.length := by omega
      subst e
      have UE : Hid (untF p x = lastF p x p.code.length) := hide (untF_code (by have h := HQ.out; rw [List.take_length] at h; exact h))
      clear HQ
      have c3 := (PX.out.step WB.out).cell3
      obtain ⟨w2, hw2⟩ : ∃ w2, w2 = wr := ⟨_, rfl⟩
      subst hw2
      have ln := LN.out
      go_wp2
      clear c3 ln
      go_loopw [6, 9, 10, 11] (fun _ kv _ _ wr => ∃ m : Nat, m ≤ p.code.length ∧ kv = .int .i64 ((m : Int) - 1) ∧ Below w1.heap.size w1 wr ∧ lastF p x m = lastF p x p.code.length) (fun _ kv _ _ _ => (intOf kv + 1).toNat)
      case atStart => exact ⟨_, Nat.le_refl _, rfl, WB.out, rfl⟩
      case round =>
        clear WB
        obtain ⟨m, hm, rfl, hb, he⟩ := hrel
        have WB := hide hb
        have HE := hide he
        clear hb he
        have ln := LN.out
        cases m with
        | zero =>
          have e0 : Hid (untF p x = -2000) := hide (by rw [UE.out, ← HE.out]; rfl)
          go_wp2
          go_ret
          exact ⟨by rw [e0.out]; try rfl, HB.out.trans (WB.out.mono HB.out.size)⟩
        | succ m =>
          rw [show (((m + 1 : Nat) : Int) - 1) = (m : Int) by omega]
          have hlt : m < p.code.length := by omega
          have HL := hide hlt
          obtain ⟨b1, o1, rfl, _⟩ := CodeAt.at KC.out hlt
          have c2 := (PX.out.step WB.out).cell2
          obtain ⟨b9, o9, e9, hic⟩ := CodeAt.at (KC.out.below WB.out) hlt
          cases e9
          have i0 := hic.cell0
          have i1 := hic.cell1
          have i2 := hic.cell2
          have i3 := hic.cell3
          have i4 := hic.cell4
          clear hic
          have AK : Hid (∀ a ∈ asksL (cd p.code m), setA p m ≠ -1 → 0 ≤ a ∧ a < 128) := hide (fun a ha hs => by have h1 := ask_toNat HRR.out hlt ha; have h2 := (right_parts HRR.out).2.2.1; omega)
          obtain ⟨i, hi⟩ : ∃ i, i = cd p.code m := ⟨_, rfl⟩
          have HI := hide hi
          rw [← hi] at AK i0 i1 i2 i3 i4
          clear hi
          go_wp2_with fail
          refine (rasks_any i _).mono ?_
          rintro e w6 ⟨⟨va, rfl, hva⟩, hb⟩
          obtain ⟨a1, c1', rfl, hcap1, hm1, _⟩ := id hva
          have AS := hide hva
          replace WB := hide (WB.out.trans (hb.mono WB.out.size))
          clear hva hb hcap1 hm1 i0 i1 i2 i3 i4 c2
          have a2 := asks_two i
          obtain ⟨n0, m0, rfl, kn⟩ := BoolsAt.atO KN.out (k := m) (by rw [ndL_lengthO]; exact hlt)
          rw [ndL_get p hlt] at kn
          have KB : Hid (∀ w', Below w1.heap.size w1 w' → w'.cell? ⟨n0, m0 + m, none⟩ = some (.bool (decide (setA p m ≠ -1)))) := hide (fun w' hb => by
            obtain ⟨b2, o2, e2, h⟩ := (KN.out.below hb).atO (k := m) (by rw [ndL_lengthO]; exact hlt)
            cases e2; rw [ndL_get p hlt] at h; exact h)
          clear kn
          skip
          by_cases hs : setA p m = -1
          · have LQ : Hid (lastF p x m = lastF p x p.code.length) := hide (by rw [← lastF_next (.inl hs)]; exact HE.out)
            have kb := KB.out _ WB.out
            rw [show decide (setA p m ≠ -1) = false by simp [hs]] at kb
            go_wp2
            go_loopw [6, 11] (fun _ jv wr => jv = .int .i64 (0 : Nat) ∧ wr = w6) (fun _ _ _ => 0)
            case atStart => exact ⟨rfl, rfl⟩
            case round =>
              obtain ⟨rfl, rfl⟩ := hrel
              by_cases hz : 0 < (asksL i).length
              · go_wp2
                go_roundw
                case rel => exact ⟨m, by omega, rfl, WB.out, LQ.out⟩
                case measure => first | (simp [intOf]; done) | (simp [intOf]; omega)
              · go_wp2
                go_roundw
                case rel => exact ⟨m, by omega, rfl, WB.out, LQ.out⟩
                case measure => first | (simp [intOf]; done) | (simp [intOf]; omega)
          · have KB2 : Hid (∀ w', Below w1.heap.size w1 w' → w'.cell? ⟨n0, m0 + m, none⟩ = some (.bool true)) := hide (fun w' hb => by have h := KB.out w' hb; rwa [show decide (setA p m ≠ -1) = true by simp [hs]] at h)
            clear KB
            have HS := hide hs
            clear hs
            have W6 := hide (Below.refl w6.heap.size w6)
            go_wp2
            go_loopw [6, 11] (fun _ jv wr => ∃ j : Nat, j ≤ (asksL i).length ∧ jv = .int .i64 (j : Nat) ∧ Below w6.heap.size w6 wr ∧ ∀ a ∈ (asksL i).take j, heldF p m a ≠ x) (fun _ jv _ => (asksL i).length - (intOf jv).toNat)
            case atStart => exact ⟨0, Nat.zero_le _, rfl, W6.out, fun o h => by simp at h⟩
            case round =>
              clear W6
              obtain ⟨j, hj, rfl, hb, hq⟩ := hrel
              have W6 := hide hb
              have HQ := hide hq
              clear hb hq
              have WA := hide (WB.out.trans (W6.out.mono WB.out.size))
              have kb := KB2.out _ WA.out
              by_cases jl : j < (asksL i).length
              · have KA : Hid (∃ b off, a1 = some ⟨b, off, none⟩ ∧ ∀ w', Below w6.heap.size w6 w' → w'.cell? ⟨b, off + j, none⟩ = some (.int .i64 (ot (asksL i) j))) := hide (by
                  obtain ⟨b, off, e, _⟩ := AS.out.at jl
                  refine ⟨b, off, e, fun w' hb => ?_⟩
                  obtain ⟨b2, o2, e2, h⟩ := (AS.out.below hb).at jl
                  rw [e] at e2; cases e2; exact h)
                obtain ⟨b, off, rfl, ka⟩ := KA.out
                replace KA := hide ka
                clear ka
                have qb := AK.out _ (show ot (asksL i) j ∈ asksL i by unfold ot; simp [jl]) HS.out
                have QB : Hid (-100000 ≤ ot (asksL i) j ∧ ot (asksL i) j ≤ 100000) := hide (by omega)
                have AL := hide jl
                obtain ⟨q, hq⟩ : ∃ q, q = ot (asksL i) j := ⟨_, rfl⟩
                have QE := hide hq
                rw [← hq] at KA QB
                clear hq qb
                obtain ⟨y, hy⟩ : ∃ y, heldF p m q = y := ⟨_, rfl⟩
                have HY := hide hy
                clear hy
                go_upto_region 14 with fail
                refine wp_calm (fun w' => Below w6.heap.size w6 w') (fun _ => true) 10 #[false, false, false, false, false, false, false, false, false, false] (by kernel_rfl) rfl rfl ?_
                have HF := hide (W6.out.drew)
                generalize wr.drew = wrd at *
                refine Calm.take (i := 0) (v := ?_) (a' := ?_) (l' := #[true, false, false, false, false, false, false, false, false, false]) (d := some 58) rfl (by kernel_rfl) (by kernel_rfl) (by kernel_rfl) (by kernel_rfl) (fun _ _ _ h => h) HF.out rfl ?_ rfl rfl ?_ ?_
                rotate_left
                · intro w' hF; have hW := WB.out.trans (hF.mono WB.out.size); have c0 := (PX.out.step hW).cell0; have c1 := (PX.out.step hW).cell1; have c2 := (PX.out.step hW).cell2; have c3 := (PX.out.step hW).cell3; have k1 := KA.out _ hF; clear hW; clear hF; go_simp; try rfl
                rotate_left
                · simp only [Act.put]; exact rfl
                refine Calm.take (i := 1) (v := ?_) (a' := ?_) (l' := #[true, true, false, false, false, false, false, false, false, false]) (d := some 59) rfl (by kernel_rfl) (by kernel_rfl) (by kernel_rfl) (by kernel_rfl) (fun _ _ _ h => h) HF.out rfl ?_ rfl rfl ?_ ?_
                rotate_left
                · intro w' hF; clear hF; go_simp; try rfl
                rotate_left
                · simp only [Act.put]; exact rfl
                refine Calm.take (i := 2) (v := ?_) (a' := ?_) (l' := #[true, true, true, false, false, false, false, false, false, false]) (d := some 60) rfl (by kernel_rfl) (by kernel_rfl) (by kernel_rfl) (by kernel_rfl) (fun _ _ _ h => h) HF.out rfl ?_ rfl rfl ?_ ?_
                rotate_left
                · intro w' hF; clear hF; go_simp; try rfl
                rotate_left
                · simp only [Act.put]; exact rfl
                refine Calm.take (i := 3) (v := ?_) (a' := ?_) (l' := #[true, true, true, true, false, false, false, false, false, false]) (d := some 61) rfl (by kernel_rfl) (by kernel_rfl) (by kernel_rfl) (by kernel_rfl) (fun _ _ _ h => h) HF.out rfl ?_ rfl rfl ?_ ?_
                rotate_left
                · intro w' hF; clear hF; go_simp; try rfl
                rotate_left
                · simp only [Act.put]; exact rfl
                refine Calm.take (i := 4) (v := ?_) (a' := ?_) (l' := #[true, true, true, true, true, false, false, false, false, false]) (d := some 62) rfl (by kernel_rfl) (by kernel_rfl) (by kernel_rfl) (by kernel_rfl) (fun _ _ _ h => h) HF.out rfl ?_ rfl rfl ?_ ?_
                rotate_left
                · intro w' hF; clear hF; go_simp; try rfl
                rotate_left
                · simp only [Act.put]; exact rfl
                refine Calm.take (i := 5) (v := ?_) (a' := ?_) (l' := #[true, true, true, true, true, true, false, false, false, false]) (d := some 63) rfl (by kernel_rfl) (by kernel_rfl) (by kernel_rfl) (by kernel_rfl) (fun _ _ _ h => h) HF.out rfl ?_ rfl rfl ?_ ?_
                rotate_left
                · intro w' hF; clear hF; go_simp; try rfl
                rotate_left
                · simp only [Act.put]; exact rfl
                refine Calm.take (i := 6) (v := ?_) (a' := ?_) (l' := #[true, true, true, true, true, true, true, false, false, false]) (d := some 64) rfl (by kernel_rfl) (by kernel_rfl) (by kernel_rfl) (by kernel_rfl) (fun _ _ _ h => h) HF.out rfl ?_ rfl rfl ?_ ?_
                rotate_left
                · intro w' hF; have hW := WB.out.trans (hF.mono WB.out.size); have c0 := (PX.out.step hW).cell0; have c1 := (PX.out.step hW).cell1; have c2 := (PX.out.step hW).cell2; have c3 := (PX.out.step hW).cell3; have k1 := KA.out _ hF; clear hW; clear hF; go_simp; try rfl
                rotate_left
                · simp only [Act.put]; exact rfl
                refine Calm.take (i := 8) (v := ?_) (a' := ?_) (l' := #[true, true, true, true, true, true, true, false, true, false]) (d := some 66) rfl (by kernel_rfl) (by kernel_rfl) (by kernel_rfl) (by kernel_rfl) (fun _ _ _ h => h) HF.out rfl ?_ rfl rfl ?_ ?_
                rotate_left
                · intro w' hF; clear hF; go_simp; try rfl
                rotate_left
                · simp only [Act.put]; exact rfl
                refine Calm.one (i := 7) (l' := #[true, true, true, true, true, true, true, true, true, false]) (by kernel_rfl) rfl rfl rfl fun K hK => ?_
                go_simp
                skip
                have hh := held_any _ _ p _ (HP.out.below (WB.out.trans (HF.out.mono WB.out.size))) (KN.out.below (WB.out.trans (HF.out.mono WB.out.size))) m (Nat.le_of_lt HL.out) LN.out q QB.out
                rw [HY.out] at hh
                refine hh.mono ?_
                clear hh
                rintro e w3 ⟨rfl, hb⟩
                have HF' := hide (HF.out.trans ((hb).mono HF.out.size))
                refine hK _ _ (fun _ => HF'.out) ?_
                clear hK K HF hb
                have HF := hide HF'.out
                clear HF'
                refine Calm.take (i := 9) (v := ?_) (a' := ?_) (l' := #[true, true, true, true, true, true, true, true, true, true]) (d := some 67) rfl (by kernel_rfl) (by kernel_rfl) (by kernel_rfl) (by kernel_rfl) (fun _ _ _ h => h) HF.out rfl ?_ rfl rfl ?_ ?_
                rotate_left
                · intro w' hF; clear hF; go_simp; try rfl
                rotate_left
                · simp only [Act.put]; exact rfl
                refine Calm.done (by kernel_rfl) ?_
                by_cases hq : y = x
                · subst hq
                  go_wp2
                  go_ret
                  exact ⟨by rw [UE.out, ← HE.out, lastF_here (a := j) (by rw [← HI.out]; exact AL.out) HS.out (by rw [← HI.out, ← QE.out]; exact HY.out)]; try rfl, HB.out.trans ((WB.out.trans (HF.out.mono WB.out.size)).mono HB.out.size)⟩
                · have hq2 : (y == x) = false := by simpa using hq
                  have QQ := hide (mem_snoc AL.out HQ.out (by rw [← QE.out, HY.out]; exact hq))
                  have AL2 := AL.out
                  go_wp2
                  go_roundw
                  case rel => exact ⟨j + 1, by omega, by go_num, HF.out, QQ.out⟩
                  case measure => simp [intOf]; omega
              · have e : j = (asksL i).length := by omega
                subst e
                have LQ : Hid (lastF p x m = lastF p x p.code.length) := hide (by rw [← lastF_next (.inr (by have h := HQ.out; rw [List.take_length] at h; rw [← HI.out]; exact h))]; exact HE.out)
                go_wp2
                go_roundw
                case rel => exact ⟨m, by omega, rfl, WA.out, LQ.out⟩
                case measure => first | (simp [intOf]; done) | (simp [intOf]; omega)
end Go.Proofs.Ytheakienigmkhaa
