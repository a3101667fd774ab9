/- swageref15.Asked: of each register, whether its beginning is asked. -/
import Derived.Test.YtcciojlbfaanmaaDdRp
namespace Go.Proofs.Ytcciojlbfaanmaa
open Go.RowKit

/-- what stands in the row while a register is gone through -/
def AIn (p : Pg) (m r : Nat) (acc : Bool) (L : List Bool) : Prop := L.length = m ∧ ∀ s, s < m → bl L s = if s = r then acc else if s < r then bl (askd p) s else false
theorem AIn.set {p : Pg} {m r : Nat} {acc : Bool} {L : List Bool} (h : AIn p m r acc L) (hr : r < m) (d : Bool) : AIn p m r d (L.set r d) := by
  refine ⟨by rw [List.length_set]; exact h.1, fun s hs => ?_⟩
  rw [bl_set (by rw [h.1]; exact hr)]
  by_cases e : s = r
  · rw [if_pos e, if_pos e]
  · rw [if_neg e, if_neg e, h.2 s hs, if_neg e]
theorem AIn.next {p : Pg} {m r : Nat} {L : List Bool} (h : AIn p m r (bl (askd p) r) L) : AIn p m (r + 1) false L := by
  refine ⟨h.1, fun s hs => ?_⟩
  rw [h.2 s hs]
  by_cases e : s = r
  · subst e; rw [if_pos rfl, if_neg (by omega), if_pos (by omega)]
  · rw [if_neg e]
    by_cases e2 : s < r
    · rw [if_pos e2, if_neg (by omega), if_pos (by omega)]
    · rw [if_neg e2]
      by_cases e3 : s = r + 1
      · rw [if_pos e3]
      · rw [if_neg e3, if_neg (by omega)]
theorem AIn.first (p : Pg) (m : Nat) : AIn p m 0 false (List.replicate m false) := by
  refine ⟨List.length_replicate .., fun s hs => ?_⟩
  rw [bl_replicate]
  by_cases e : s = 0
  · rw [if_pos e]
  · rw [if_neg e, if_neg (by omega)]
theorem AIn.last {p : Pg} {m : Nat} {acc : Bool} {L : List Bool} (h : AIn p m m acc L) (hm : p.regs.toNat = m) : L = askd p := by
  refine bl_ext (by rw [h.1, askd_length, hm]) (fun s hs => ?_)
  rw [h.1] at hs
  rw [h.2 s hs, if_neg (by omega), if_pos hs]
theorem AIn.at {p : Pg} {m r : Nat} {acc : Bool} {L : List Bool} (h : AIn p m r acc L) (hr : r < m) : bl L r = acc := by rw [h.2 r hr, if_pos rfl]
/-- what is known between two instructions -/
def FwK (outs : List Int) (r : Int) (code : List Ins) (k : Nat) (acc st : Bool) : Prop := fwdQ outs r code = (acc || (!st && fwdQ outs r (code.drop k)))
theorem FwK.step {outs : List Int} {r : Int} {code : List Ins} {k : Nat} {acc : Bool} (h : FwK outs r code k acc false) (hk : k < code.length) : FwK outs r code (k + 1) (acc || decide (r ∈ asksL (cd code k))) (decide ((cd code k).to = r)) := by
  unfold FwK at *
  rw [h, drop_cd code k hk]
  simp only [fwdQ, Bool.not_false, Bool.true_and]
  cases acc <;> cases decide (r ∈ asksL (cd code k)) <;> simp
theorem FwK.done {outs : List Int} {r : Int} {code : List Ins} {acc : Bool} (h : FwK outs r code code.length acc false) : fwdQ outs r code = (acc || decide (r ∈ outs)) := by
  unfold FwK at h
  rw [h, List.drop_length]
  simp [fwdQ]
theorem FwK.set {outs : List Int} {r : Int} {code : List Ins} {k : Nat} {acc : Bool} (h : FwK outs r code k acc true) : fwdQ outs r code = acc := by
  unfold FwK at h
  rw [h]; simp
theorem IntsAt.setB {W : World} {v : Value} {l : List Int} {base g m t : Nat} {L : List Bool} (h : IntsAt W v l) (d : Bool) (hO : OwnB W base (.slice (some ⟨g, 0, none⟩) m m) L) (hl : L.length = m) : IntsAt (W.setCell ⟨g, t, none⟩ (.bool d)) v l := by
  obtain ⟨a, cap, h1, h2, h3, h4⟩ := h
  refine ⟨a, cap, h1, h2, h3, fun hne => ?_⟩
  obtain ⟨b, off, e, hc⟩ := h4 hne
  refine ⟨b, off, e, fun i hi => ?_⟩
  have hb : b ≠ g := by
    rintro rfl
    exact hO.no_int hl (hc i hi)
  rw [World.cell?_of_block (Below.heap_setCell W ⟨g, t, none⟩ (.bool d) b hb)]
  exact hc i hi
set_option maxRecDepth 100000 in
set_option maxHeartbeats 8000000 in
theorem rasked_any (v : Value) (p : Pg) (w : World) (h : PgAt w v p) (hr : rightB p = true) :
    Calls Try.prog 29 #[v] w fun e w' => (∃ g, e = .returned (.slice (some ⟨g, 0, none⟩) p.regs.toNat p.regs.toNat) ∧ OwnB w' w.heap.size (.slice (some ⟨g, 0, none⟩) p.regs.toNat p.regs.toNat) (askd p)) ∧ Below w.heap.size w w' := by
  obtain ⟨i0, hi, hz0, hz1, hz2⟩ := info_parts info_bool
  have HP := hide h
  have HRR := hide hr
  obtain ⟨m, hm⟩ : ∃ m : Nat, p.regs = m := ⟨p.regs.toNat, by have := (right_parts hr).1; have := (right_parts hr).2.1; omega⟩
  have hml : m ≤ 128 := by have := (right_parts hr).2.2.1; omega
  have mt : p.regs.toNat = m := by omega
  have GET : Hid (∀ r : Nat, r < m → bl (askd p) r = fwdQ (ddP p).outs r (ddP p).code) := hide (fun r hr => asked_get p r (by omega))
  have LQ : Hid ((ddP p).code.length ≤ 16384 ∧ (ddP p).outs.length ≤ 128) := hide ⟨(right_parts (dd_right hr)).2.2.2.1, (right_parts (dd_right hr)).2.2.2.2.2.1⟩
  obtain ⟨ca, cc, oa, oc, rfl, hc, ho⟩ := h
  rw [mt]
  have MT := hide mt
  have HM := hide hm
  clear hc ho hr mt hm
  go_enter Try.func29, Try.ntmps29
  go_upto_region 1 with fail
  have hb := below_alloc w (.cells #[.int .i64 p.ins, .int .i64 p.regs, .slice ca p.code.length cc, .slice oa p.outs.length oc] 25)
  have PX := hide (Box4.new w 25 (.int .i64 p.ins) (.int .i64 p.regs) (.slice ca p.code.length cc) (.slice oa p.outs.length oc))
  replace HP := hide (HP.out.below hb)
  have HB := hide hb
  clear hb
  generalize w.alloc (.cells #[.int .i64 p.ins, .int .i64 p.regs, .slice ca p.code.length cc, .slice oa p.outs.length oc] 25) = w1 at *
  obtain ⟨B0, hB⟩ : ∃ B, B = w.heap.size := ⟨_, rfl⟩
  have HZ := hide hB
  rw [← hB] at PX ⊢
  clear hB
  have c0 := PX.out.cell0
  have c1 := PX.out.cell1
  have c2 := PX.out.cell2
  have c3 := PX.out.cell3
  go_wp2_with fail
  refine (rdpass_any _ p _ HP.out HRR.out).mono ?_
  rintro e w2 ⟨⟨vq, rfl, hown⟩, hb⟩
  obtain ⟨q, hq⟩ : ∃ q, q = ddP p := ⟨_, rfl⟩
  rw [← hq] at GET LQ hown
  have QR := hide (show q.regs = p.regs ∧ q.outs = p.outs from by rw [hq]; exact ⟨rfl, rfl⟩)
  clear hq
  obtain ⟨vqc, vqo, hv, hqc, hqo⟩ := hown
  have hqc' : OwnC w2 w1.heap.size vqc q.code := hqc
  have hqo' : OwnO w2 w1.heap.size vqo q.outs := hqo
  clear hqc hqo
  obtain ⟨qa, qc, h3⟩ := own_slice hqc'
  obtain ⟨ra, rc, h4⟩ := own_slice hqo'
  subst h3 h4
  replace hv : vq = .agg #[.int .i64 q.ins, .int .i64 q.regs, .slice qa q.code.length qc, .slice ra q.outs.length rc] := hv
  subst hv
  have QC := hide (OwnC.at hqc')
  have QO := hide (OwnO.at hqo')
  replace PX := hide (PX.out.step hb)
  replace HB := hide (HB.out.trans (hb.mono HB.out.size))
  clear hb hqc' hqo' c0 c1 c2 c3
  go_upto_region 2 with fail
  have hb := below_alloc w2 (.cells #[.int .i64 q.ins, .int .i64 q.regs, .slice qa q.code.length qc, .slice ra q.outs.length rc] 25)
  have QX : Hid (Box4 (w2.alloc (.cells #[.int .i64 q.ins, .int .i64 q.regs, .slice qa q.code.length qc, .slice ra q.outs.length rc] 25)) w2.heap.size 25 (.int .i64 q.ins) (.int .i64 q.regs) (.slice qa q.code.length qc) (.slice ra q.outs.length rc)) := hide (Box4.new w2 25 _ _ _ _)
  replace PX := hide (PX.out.step hb)
  replace QC := hide (QC.out.below hb)
  replace QO := hide (QO.out.below hb)
  replace HB := hide (HB.out.trans (hb.mono HB.out.size))
  clear hb
  generalize w2.alloc (.cells #[.int .i64 q.ins, .int .i64 q.regs, .slice qa q.code.length qc, .slice ra q.outs.length rc] 25) = w3 at *
  generalize w2.heap.size = O at *
  have c0 := PX.out.cell0
  have c1 := PX.out.cell1
  have c2 := PX.out.cell2
  have c3 := PX.out.cell3
  rw [HM.out] at c1
  go_wp2_with (at_make; refine wpList_make_full _ rfl _ _ 50 rfl w3.heap.size 4 i0 (.bool false) 1 Try.underlying50 hi hz0 hz1 _ _ _ _ m rfl rfl rfl rfl (by rw [hz2]; omega) (by unfold maxLen; omega) (Nat.le_refl _) ?_)
  intro w4 hown hgrow
  have W0 := hide ((Below.refl w3.heap.size w3).grown hgrow (Nat.le_refl _) (fun k hk => by simp at hk))
  have LNm : (List.replicate m false).length = m := List.length_replicate ..
  have OB : Hid (OwnB w4 w3.heap.size (.slice (some ⟨w3.heap.size, 0, none⟩) m m) (List.replicate m false)) := hide (by show World.ownsRow _ _ _ _ _ (List.replicate m false).length _; rw [LNm, ← made_false]; simpa using hown)
  clear hown hgrow LNm c0 c1 c2 c3
  obtain ⟨g, hg⟩ : ∃ g, g = w3.heap.size := ⟨_, rfl⟩
  have GG := hide (Nat.le_of_eq hg.symm)
  generalize hgg : (⟨w3.heap.size, 0, none⟩ : Addr) = ga at OB ⊢
  obtain ⟨g2, hg2⟩ : ∃ g2 : Nat, ga = ⟨g2, 0, none⟩ ∧ w3.heap.size ≤ g2 := ⟨_, hgg.symm, Nat.le_refl _⟩
  obtain ⟨rfl, hge⟩ := hg2
  have GE := hide hge
  clear hgg hge hg GG
  go_upto_region 4 with fail
  go_loopw [5, 6, 7, 8, 9, 10] (fun rv _ _ _ _ _ wr => ∃ (r : Nat) (L : List Bool), r ≤ m ∧ rv = .int .i64 (r : Nat) ∧ Below w3.heap.size w3 wr ∧ OwnB wr w3.heap.size (.slice (some ⟨g2, 0, none⟩) m m) L ∧ AIn p m r false L) (fun rv _ _ _ _ _ _ => m - (intOf rv).toNat)
  case atStart => exact ⟨0, _, Nat.zero_le _, rfl, W0.out, OB.out, AIn.first p m⟩
  case round =>
    clear W0 OB
    obtain ⟨r, L, hr, rfl, hw, ho, ha⟩ := hrel
    have W0 := hide hw
    have OB := hide ho
    have AI := hide ha
    clear hw ho ha
    obtain ⟨wa, hwa⟩ : ∃ wa, wa = wr := ⟨_, rfl⟩
    subst hwa
    have c1 := (PX.out.step W0.out).cell1
    rw [HM.out] at c1
    by_cases hlt : r < m
    · have RL := hide hlt
      go_upto_region 8 with fail
      clear hlt c1
      go_loopw [6, 7, 8, 9] (fun sv kv _ _ wr => ∃ (k : Nat) (L : List Bool) (acc st : Bool), k ≤ q.code.length ∧ kv = .int .i64 (k : Nat) ∧ sv = .bool st ∧ Below w3.heap.size w3 wr ∧ OwnB wr w3.heap.size (.slice (some ⟨g2, 0, none⟩) m m) L ∧ AIn p m r acc L ∧ FwK q.outs r q.code k acc st) (fun _ kv _ _ _ => q.code.length - (intOf kv).toNat)
      case atStart => exact ⟨0, L, false, false, Nat.zero_le _, rfl, rfl, W0.out, OB.out, AI.out, by unfold FwK; simp⟩
      case round =>
        clear W0 OB AI L
        obtain ⟨k, L, acc, st, hk, rfl, rfl, hw, ho, ha, hf⟩ := hrel
        have W0 := hide hw
        have OB := hide ho
        have AI := hide ha
        have FK := hide hf
        clear hw ho ha hf
        obtain ⟨wb, hwb⟩ : ∃ wb, wb = wr := ⟨_, rfl⟩
        subst hwb
        have hlq := LQ.out.1
        have x2 := (QX.out.step W0.out).cell2
        have GO : st = false → ¬ k < q.code.length → k = q.code.length := fun _ h => by omega
        clear GO
        cases hst : st with
        | true =>
          rw [hst] at FK
          by_cases hlt : k < q.code.length
          · have hlt' := hlt
            have FE := hide (FK.out.set)
            have x3 := (QX.out.step W0.out).cell3
            go_wp2
            go_loopw [10] (fun jv wr => wr = wb ∧ ∃ j : Nat, j ≤ q.outs.length ∧ jv = .int .i64 (j : Nat)) (fun jv _ => q.outs.length - (intOf jv).toNat)
            case atStart => exact ⟨rfl, 0, Nat.zero_le _, rfl⟩
            case round =>
              obtain ⟨hwr, j, hj, rfl⟩ := hrel
              subst hwr
              have hlo := LQ.out.2
              have AN := hide (AIn.next (p := p) (m := m) (r := r) (L := L) (by rw [GET.out r RL.out, FE.out]; exact AI.out))
              by_cases hjl : j < q.outs.length
              · go_wp2
                go_roundw
                case rel => exact ⟨r + 1, L, by have := RL.out; omega, by go_num, W0.out, OB.out, AN.out⟩
                case measure => have := RL.out; simp [intOf]; omega
              · go_wp2
                go_roundw
                case rel => exact ⟨r + 1, L, by have := RL.out; omega, by go_num, W0.out, OB.out, AN.out⟩
                case measure => have := RL.out; simp [intOf]; omega
          · have hlt' := hlt
            have FE := hide (FK.out.set)
            have x3 := (QX.out.step W0.out).cell3
            go_wp2
            go_loopw [10] (fun jv wr => wr = wb ∧ ∃ j : Nat, j ≤ q.outs.length ∧ jv = .int .i64 (j : Nat)) (fun jv _ => q.outs.length - (intOf jv).toNat)
            case atStart => exact ⟨rfl, 0, Nat.zero_le _, rfl⟩
            case round =>
              obtain ⟨hwr, j, hj, rfl⟩ := hrel
              subst hwr
              have hlo := LQ.out.2
              have AN := hide (AIn.next (p := p) (m := m) (r := r) (L := L) (by rw [GET.out r RL.out, FE.out]; exact AI.out))
              by_cases hjl : j < q.outs.length
              · go_wp2
                go_roundw
                case rel => exact ⟨r + 1, L, by have := RL.out; omega, by go_num, W0.out, OB.out, AN.out⟩
                case measure => have := RL.out; simp [intOf]; omega
              · go_wp2
                go_roundw
                case rel => exact ⟨r + 1, L, by have := RL.out; omega, by go_num, W0.out, OB.out, AN.out⟩
                case measure => have := RL.out; simp [intOf]; omega
        | false =>
          rw [hst] at FK
          by_cases hlt : k < q.code.length
          · obtain ⟨b1, o1, hqa, hic⟩ := CodeAt.at (QC.out.below W0.out) hlt
            subst hqa
            have FS := hide (FK.out.step hlt)
            have KL := hide hlt
            obtain ⟨i, hi⟩ : ∃ i, i = cd q.code k := ⟨_, rfl⟩
            rw [← hi] at hic FS
            have HI : Hid (∀ w', Below w3.heap.size w3 w' → InsC w' b1 (o1 + k * 5) i) := hide (fun w' hb => by
              obtain ⟨b2, o2, e, h⟩ := CodeAt.at (QC.out.below hb) KL.out
              cases e
              rw [hi]
              exact h)
            clear hi
            have i0 := hic.cell0
            have i1 := hic.cell1
            have i2 := hic.cell2
            have i3 := hic.cell3
            have i4 := hic.cell4
            go_wp2_with fail
            refine (rasks_any i _).mono ?_
            rintro e w6 ⟨⟨va, rfl, hva⟩, hb⟩
            obtain ⟨a1, c1', rfl, hcap1, hm1, _⟩ := id hva
            have AS := hide hva
            have WB := hide W0.out.size
            replace W0 := hide (W0.out.trans (hb.mono W0.out.size))
            replace OB := hide (own_below OB.out hb)
            clear hva hb hcap1 hm1 i0 i1 i2 i3 i4 x2 hic
            replace OB : Hid (OwnB w6 w3.heap.size (.slice (some ⟨g2, 0, none⟩) m m) L) := hide OB.out
            go_upto_region 12 with fail
            go_loopw [9] (fun jv wr => ∃ (j : Nat) (L : List Bool), j ≤ (asksL i).length ∧ jv = .int .i64 (j : Nat) ∧ Below w3.heap.size w3 wr ∧ OwnB wr w3.heap.size (.slice (some ⟨g2, 0, none⟩) m m) L ∧ AIn p m r (acc || decide ((r : Int) ∈ (asksL i).take j)) L ∧ IntsAt wr (.slice a1 (asksL i).length c1') (asksL i)) (fun jv _ => (asksL i).length - (intOf jv).toNat)
            case atStart => exact ⟨0, L, Nat.zero_le _, rfl, W0.out, OB.out, by simpa using AI.out, AS.out⟩
            case round =>
              clear W0 OB AI AS L
              obtain ⟨j, L, hj, rfl, hw, ho, ha, hs⟩ := hrel
              have W0 := hide hw
              have OB := hide ho
              have AI := hide ha
              have AS := hide hs
              clear hw ho ha hs
              have a2 := asks_two i
              by_cases hjl : j < (asksL i).length
              · obtain ⟨b, off, rfl, k1⟩ := AS.out.at hjl
                have TK := hide (ot_take_mem (r := (r : Int)) hjl)
                have LL : Hid (r < L.length) := hide (by rw [AI.out.1]; exact RL.out)
                have kr := OB.out.cell LL.out
                have fr := OB.out.frozen r
                have rl := RL.out
                generalize ot (asksL i) j = y at *
                rw [AI.out.at RL.out] at kr
                cases hb : (acc || decide ((r : Int) ∈ (asksL i).take j)) with
                | true =>
                  rw [hb] at kr
                  go_wp2
                  go_roundw
                  case rel => exact ⟨j + 1, L.set r true, by omega, by go_num, W0.out.setCell (p := ⟨g2, r, none⟩) GE.out _, OB.out.store, by rw [TK.out]; rw [← Bool.or_assoc, hb]; exact AI.out.set RL.out true, (AS.out.setB true OB.out AI.out.1)⟩
                  case measure => simp [intOf]; omega
                | false =>
                  rw [hb] at kr
                  by_cases hy : y = (r : Int)
                  · subst hy
                    go_wp2
                    go_roundw
                    case rel => exact ⟨j + 1, L.set r true, by omega, by go_num, W0.out.setCell (p := ⟨g2, r, none⟩) GE.out _, OB.out.store, by rw [TK.out]; rw [← Bool.or_assoc, hb]; simpa using AI.out.set RL.out true, (AS.out.setB true OB.out AI.out.1)⟩
                    case measure => simp [intOf]; omega
                  · have hy' : (y == (r : Int)) = false := by simpa using hy
                    go_wp2
                    go_roundw
                    case rel => exact ⟨j + 1, L.set r false, by omega, by go_num, W0.out.setCell (p := ⟨g2, r, none⟩) GE.out _, OB.out.store, by rw [TK.out]; rw [← Bool.or_assoc, hb]; simpa [hy] using AI.out.set RL.out false, (AS.out.setB false OB.out AI.out.1)⟩
                    case measure => simp [intOf]; omega
              · have e : j = (asksL i).length := by omega
                subst e
                have AJ := hide AI.out
                rw [List.take_length] at AJ
                have x2 := (QX.out.step W0.out).cell2
                have z1 := (HI.out _ W0.out).cell1
                have kl := KL.out
                by_cases ht : i.to = (r : Int)
                · have FS2 : Hid (FwK q.outs r q.code (k + 1) (acc || decide ((r : Int) ∈ asksL i)) true) := hide (by have := FS.out; rwa [decide_eq_true ht] at this)
                  rw [ht] at z1
                  go_wp2
                  go_roundw
                  case rel => exact ⟨k + 1, L, _, true, by omega, by go_num, rfl, W0.out, OB.out, AJ.out, FS2.out⟩
                  case measure => simp [intOf]; omega
                · have FS2 : Hid (FwK q.outs r q.code (k + 1) (acc || decide ((r : Int) ∈ asksL i)) false) := hide (by have := FS.out; rwa [decide_eq_false ht] at this)
                  have ht' : (i.to == (r : Int)) = false := by simpa using ht
                  go_wp2
                  go_roundw
                  case rel => exact ⟨k + 1, L, _, false, by omega, by go_num, rfl, W0.out, OB.out, AJ.out, FS2.out⟩
                  case measure => simp [intOf]; omega
          · have e : k = q.code.length := by omega
            subst e
            have FE := hide (FK.out.done)
            have x3 := (QX.out.step W0.out).cell3
            go_wp2
            go_loopw [10] (fun jv wr => ∃ (j : Nat) (L : List Bool), j ≤ q.outs.length ∧ jv = .int .i64 (j : Nat) ∧ Below w3.heap.size w3 wr ∧ OwnB wr w3.heap.size (.slice (some ⟨g2, 0, none⟩) m m) L ∧ AIn p m r (acc || decide ((r : Int) ∈ q.outs.take j)) L) (fun jv _ => q.outs.length - (intOf jv).toNat)
            case atStart => exact ⟨0, L, Nat.zero_le _, rfl, W0.out, OB.out, by simpa using AI.out⟩
            case round =>
              clear W0 OB AI x3 L
              obtain ⟨j, L, hj, rfl, hw, ho, ha⟩ := hrel
              have W0 := hide hw
              have OB := hide ho
              have AI := hide ha
              clear hw ho ha
              have hlo := LQ.out.2
              have x3 := (QX.out.step W0.out).cell3
              by_cases hjl : j < q.outs.length
              · obtain ⟨b, off, rfl, k1⟩ := (QO.out.below W0.out).at hjl
                have TK := hide (ot_take_mem (r := (r : Int)) hjl)
                have LL : Hid (r < L.length) := hide (by rw [AI.out.1]; exact RL.out)
                have kr := OB.out.cell LL.out
                have fr := OB.out.frozen r
                have rl := RL.out
                generalize ot q.outs j = y at *
                rw [AI.out.at RL.out] at kr
                cases hb : (acc || decide ((r : Int) ∈ q.outs.take j)) with
                | true =>
                  rw [hb] at kr
                  go_wp2
                  go_roundw
                  case rel => exact ⟨j + 1, L.set r true, by omega, by go_num, W0.out.setCell (p := ⟨g2, r, none⟩) GE.out _, OB.out.store, by rw [TK.out]; rw [← Bool.or_assoc, hb]; exact AI.out.set RL.out true⟩
                  case measure => simp [intOf]; omega
                | false =>
                  rw [hb] at kr
                  by_cases hy : y = (r : Int)
                  · subst hy
                    go_wp2
                    go_roundw
                    case rel => exact ⟨j + 1, L.set r true, by omega, by go_num, W0.out.setCell (p := ⟨g2, r, none⟩) GE.out _, OB.out.store, by rw [TK.out]; rw [← Bool.or_assoc, hb]; simpa using AI.out.set RL.out true⟩
                    case measure => simp [intOf]; omega
                  · have hy' : (y == (r : Int)) = false := by simpa using hy
                    go_wp2
                    go_roundw
                    case rel => exact ⟨j + 1, L.set r false, by omega, by go_num, W0.out.setCell (p := ⟨g2, r, none⟩) GE.out _, OB.out.store, by rw [TK.out]; rw [← Bool.or_assoc, hb]; simpa [hy] using AI.out.set RL.out false⟩
                    case measure => simp [intOf]; omega
              · have e : j = q.outs.length := by omega
                subst e
                have AN := hide (AIn.next (p := p) (m := m) (r := r) (L := L) (by rw [GET.out r RL.out, FE.out]; have h1 := AI.out; rw [List.take_length] at h1; exact h1))
                go_wp2
                go_roundw
                case rel => exact ⟨r + 1, L, by have := RL.out; omega, by go_num, W0.out, OB.out, AN.out⟩
                case measure => have := RL.out; simp [intOf]; omega
    · have e : r = m := by omega
      subst e
      have EL := AI.out.last MT.out
      rw [EL] at OB
      go_wp2
      go_ret
      exact ⟨⟨_, rfl, own_base OB.out HB.out.size⟩, HB.out.trans (W0.out.mono HB.out.size)⟩
end Go.Proofs.Ytcciojlbfaanmaa
