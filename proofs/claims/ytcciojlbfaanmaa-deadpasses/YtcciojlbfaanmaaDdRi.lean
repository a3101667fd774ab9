/- swageref15.Idle: of each instruction, whether it is idle. -/
import Derived.Test.YtcciojlbfaanmaaDdM
import Derived.Test.YtcciojlbfaanmaaPgApp
import Derived.Test.YtcciojlbfaanmaaPgNeed
namespace Go.Proofs.Ytcciojlbfaanmaa
open Go.RowKit

theorem ndL_lengthD (p : Pg) : (ndL p).length = p.code.length := need_length _ _
theorem OwnB.lies {w w' : World} {base : Nat} {v : Value} {l : List Bool} (h : OwnB w base v l) (hb : Below w.heap.size w w') : OwnB w' base v l := own_below h hb
theorem idL_take {p : Pg} {k : Nat} (h : k < p.code.length) : (idL p).take (k + 1) = (idL p).take k ++ [bl (idL p) k] := by
  have hl : k < (idL p).length := by rw [idL_length]; exact h
  rw [List.take_succ_eq_append_getElem hl]
  congr 2
  unfold bl
  simp [List.getD_eq_getElem?_getD, hl]
set_option maxRecDepth 100000 in
set_option maxHeartbeats 8000000 in
theorem ridle_any (v : Value) (p : Pg) (w : World) (h : PgAt w v p) (hr : rightB p = true) :
    Calls Try.prog 27 #[v] w fun e w' => (∃ vo, e = .returned vo ∧ OwnB w' w.heap.size vo (idL p)) ∧ Below w.heap.size w w' := by
  have HP := hide h
  have HRR := hide hr
  obtain ⟨ca, cc, oa, oc, rfl, hc, ho⟩ := h
  have KC := hide hc
  clear hc ho hr
  go_enter Try.func27, Try.ntmps27
  go_upto_region 1 with fail
  have hb := below_alloc w (.cells #[.int .i64 p.ins, .int .i64 p.regs, .slice ca p.code.length cc, .slice oa p.outs.length oc] 25)
  have PX := hide (Box4.new w 25 (.int .i64 p.ins) (.int .i64 p.regs) (.slice ca p.code.length cc) (.slice oa p.outs.length oc))
  replace HP := hide (HP.out.below hb)
  have HB := hide hb
  clear hb
  generalize w.alloc (.cells #[.int .i64 p.ins, .int .i64 p.regs, .slice ca p.code.length cc, .slice oa p.outs.length oc] 25) = w1 at *
  obtain ⟨B, hB⟩ : ∃ B, B = w.heap.size := ⟨_, rfl⟩
  have HZ := hide hB
  rw [← hB] at PX ⊢
  clear hB
  have c0 := PX.out.cell0
  have c1 := PX.out.cell1
  have c2 := PX.out.cell2
  have c3 := PX.out.cell3
  go_wp2_with fail
  refine (rneeded_right _ p _ HP.out HRR.out).mono ?_
  rintro e w2 ⟨gn, rfl, hn, hb⟩
  replace PX := hide (PX.out.step hb)
  have HB2 := hide hb.size
  replace HB := hide (HB.out.trans (hb.mono HB.out.size))
  have NN := hide hn
  clear hb hn c0 c1 c2 c3
  have LN := hide (show p.code.length ≤ 16384 from (right_parts HRR.out).2.2.2.1)
  have ID : Hid (∀ k, k < p.code.length → bl (idL p) k = (!bl (ndL p) k || selfB (cd p.code k)) ∧ (idL p).take (k + 1) = (idL p).take k ++ [bl (idL p) k]) := hide (fun k hk => ⟨idL_get p k hk, idL_take hk⟩)
  go_wp2
  go_loopw [4, 5, 6] (fun ov kv _ wr => ∃ k : Nat, k ≤ p.code.length ∧ kv = .int .i64 (k : Nat) ∧ Below w2.heap.size w2 wr ∧ OwnB wr w2.heap.size ov ((idL p).take k)) (fun _ kv _ _ => p.code.length - (intOf kv).toNat)
  case atStart => exact ⟨0, Nat.zero_le _, rfl, Below.refl _ _, World.ownsRow_nil _ _ _ _⟩
  case round =>
    obtain ⟨k, hk, rfl, hbl, ho⟩ := hrel
    have WB := hide hbl
    have OB := hide ho
    clear hbl ho
    obtain ⟨wl, hwl⟩ : ∃ wl, wl = wr := ⟨_, rfl⟩
    subst hwl
    have c2 := (PX.out.step WB.out).cell2
    have hln := LN.out
    by_cases hlt : k < p.code.length
    · obtain ⟨b1, o1, rfl, hic⟩ := CodeAt.at ((KC.out.below HB.out).below WB.out) hlt
      obtain ⟨e1, e2⟩ := ID.out k hlt
      have E1 := hide e1
      have E2 := hide e2
      clear e1 e2
      generalize cd p.code k = i at *
      obtain ⟨op, t, a, b, c⟩ := i
      have i0 := hic.cell0
      have i1 := hic.cell1
      have i2 := hic.cell2
      have i3 := hic.cell3
      have i4 := hic.cell4
      dsimp only at i0 i1 i2 i3 i4
      clear hic
      go_upto_region 7 with fail
      have hb := below_alloc wl (.cells #[.int .i64 op, .int .i64 t, .int .i64 a, .int .i64 b, .int .i64 c] 34)
      have IX : Hid (Box5 (wl.alloc (.cells #[.int .i64 op, .int .i64 t, .int .i64 a, .int .i64 b, .int .i64 c] 34)) wl.heap.size 34 ⟨op, t, a, b, c⟩) := hide (Box5.new wl 34 ⟨op, t, a, b, c⟩)
      replace WB := hide (WB.out.trans (hb.mono WB.out.size))
      replace OB := hide (OB.out.lies hb)
      clear hb i0 i1 i2 i3 i4 c2
      generalize wl.alloc (.cells #[.int .i64 op, .int .i64 t, .int .i64 a, .int .i64 b, .int .i64 c] 34) = w4 at *
      generalize wl.heap.size = X at *
      have k0 := IX.out.cells.cell0
      have k1 := IX.out.cells.cell1
      have k2 := IX.out.cells.cell2
      simp only [Nat.zero_add] at k1 k2
      have kn := (NN.out.lies WB.out).cell (k := k) (by rw [ndL_lengthD]; exact hlt)
      have hks := hlt
      cases hn : bl (ndL p) k with
      | false =>
        rw [hn] at kn
        have ED := hide (show bl (idL p) k = true from by rw [E1.out, hn]; rfl)
        skip
        have al := below_alloc w4 (.cells #[.bool true] 4)
        have BO := hide (bool1 w4 true rfl)
        have OB2 := hide (OB.out.lies al)
        replace WB := hide (WB.out.trans (al.mono WB.out.size))
        clear al
        go_wp2_with (at_builtin; refine wpList_op rfl fun K hK => ?_; refine wp_appB _ _ rfl w2.heap.size _ ((idL p).take k) rfl OB2.out _ [true] rfl BO.out (by rw [List.length_take, List.length_singleton]; have := LN.out; omega) WB.out.size ?_; intro v' w9 hown hgrow; refine hK _ _ ?_)
        replace WB := hide (WB.out.grown hgrow WB.out.size (fun g hg => (World.ownsRow.lt OB2.out g hg).1))
        rw [show (idL p).take k ++ [true] = (idL p).take (k + 1) from by rw [E2.out, ED.out]] at hown
        have O9 := hide hown
        clear hown hgrow k0 k1 k2 kn OB OB2 BO
        go_wp2
        go_roundw
        case rel => exact ⟨k + 1, by omega, by go_num, WB.out, O9.out⟩
        case measure => simp [intOf]; omega
      | true =>
        rw [hn] at kn
        by_cases q1 : op = 1
        · subst q1
          by_cases q2 : t = a
          · subst q2
            have ED := hide (show bl (idL p) k = true from by rw [E1.out, hn]; simp [selfB])
            skip
            have al := below_alloc w4 (.cells #[.bool true] 4)
            have BO := hide (bool1 w4 true rfl)
            have OB2 := hide (OB.out.lies al)
            replace WB := hide (WB.out.trans (al.mono WB.out.size))
            clear al
            go_wp2_with (at_builtin; refine wpList_op rfl fun K hK => ?_; refine wp_appB _ _ rfl w2.heap.size _ ((idL p).take k) rfl OB2.out _ [true] rfl BO.out (by rw [List.length_take, List.length_singleton]; have := LN.out; omega) WB.out.size ?_; intro v' w9 hown hgrow; refine hK _ _ ?_)
            replace WB := hide (WB.out.grown hgrow WB.out.size (fun g hg => (World.ownsRow.lt OB2.out g hg).1))
            rw [show (idL p).take k ++ [true] = (idL p).take (k + 1) from by rw [E2.out, ED.out]] at hown
            have O9 := hide hown
            clear hown hgrow k0 k1 k2 kn OB OB2 BO
            go_wp2
            go_roundw
            case rel => exact ⟨k + 1, by omega, by go_num, WB.out, O9.out⟩
            case measure => simp [intOf]; omega
          · have q2' : (t == a) = false := by simpa using q2
            have ED := hide (show bl (idL p) k = false from by rw [E1.out, hn]; simp [selfB, q2])
            skip
            have al := below_alloc w4 (.cells #[.bool false] 4)
            have BO := hide (bool1 w4 false rfl)
            have OB2 := hide (OB.out.lies al)
            replace WB := hide (WB.out.trans (al.mono WB.out.size))
            clear al
            go_wp2_with (at_builtin; refine wpList_op rfl fun K hK => ?_; refine wp_appB _ _ rfl w2.heap.size _ ((idL p).take k) rfl OB2.out _ [false] rfl BO.out (by rw [List.length_take, List.length_singleton]; have := LN.out; omega) WB.out.size ?_; intro v' w9 hown hgrow; refine hK _ _ ?_)
            replace WB := hide (WB.out.grown hgrow WB.out.size (fun g hg => (World.ownsRow.lt OB2.out g hg).1))
            rw [show (idL p).take k ++ [false] = (idL p).take (k + 1) from by rw [E2.out, ED.out]] at hown
            have O9 := hide hown
            clear hown hgrow k0 k1 k2 kn OB OB2 BO
            go_wp2
            go_roundw
            case rel => exact ⟨k + 1, by omega, by go_num, WB.out, O9.out⟩
            case measure => simp [intOf]; omega
        · have q1' : (op == 1) = false := by simpa using q1
          have ED := hide (show bl (idL p) k = false from by rw [E1.out, hn]; simp [selfB, q1])
          skip
          have al := below_alloc w4 (.cells #[.bool false] 4)
          have BO := hide (bool1 w4 false rfl)
          have OB2 := hide (OB.out.lies al)
          replace WB := hide (WB.out.trans (al.mono WB.out.size))
          clear al
          go_wp2_with (at_builtin; refine wpList_op rfl fun K hK => ?_; refine wp_appB _ _ rfl w2.heap.size _ ((idL p).take k) rfl OB2.out _ [false] rfl BO.out (by rw [List.length_take, List.length_singleton]; have := LN.out; omega) WB.out.size ?_; intro v' w9 hown hgrow; refine hK _ _ ?_)
          replace WB := hide (WB.out.grown hgrow WB.out.size (fun g hg => (World.ownsRow.lt OB2.out g hg).1))
          rw [show (idL p).take k ++ [false] = (idL p).take (k + 1) from by rw [E2.out, ED.out]] at hown
          have O9 := hide hown
          clear hown hgrow k0 k1 k2 kn OB OB2 BO
          go_wp2
          go_roundw
          case rel => exact ⟨k + 1, by omega, by go_num, WB.out, O9.out⟩
          case measure => simp [intOf]; omega
    · have e : k = p.code.length := by omega
      subst e
      have EA : (idL p).take p.code.length = idL p := List.take_of_length_le (by rw [idL_length]; exact Nat.le_refl _)
      rw [EA] at OB
      go_wp2
      go_ret
      exact ⟨⟨_, rfl, own_base OB.out HB.out.size⟩, HB.out.trans (WB.out.mono HB.out.size)⟩
end Go.Proofs.Ytcciojlbfaanmaa
