/- swageref16.Alive: how many values are asked at once, by definition. -/
import Derived.Test.YtheakienigmkhaaOrPk0
import Derived.Deep.CutRange
namespace Go.Proofs.Ytheakienigmkhaa
open Go.RowKit

theorem b1_le (q : Prop) [Decidable q] : b1 q ≤ 1 := by unfold b1; split <;> omega
theorem alI_le (p : Pg) (k : Nat) : ∀ m, alI p k m ≤ m + 1
  | 0 => by simp only [alI]; have := b1_le ((k : Int) ≤ untF p (-1000)); omega
  | m + 1 => by
    have h := alI_le p k m
    have := b1_le ((k : Int) ≤ untF p (-1 - m))
    simp only [alI]; omega
theorem alS_le (p : Pg) (k : Nat) : ∀ j, alS p k j ≤ p.ins.toNat + 1 + j
  | 0 => by simp only [alS]; exact alI_le p k _
  | j + 1 => by
    have h := alS_le p k j
    have := b1_le (setA p j ≠ -1 ∧ (k : Int) ≤ untF p j)
    simp only [alS]; omega
theorem amost_le (p : Pg) : ∀ k, amost p k ≤ p.ins.toNat + 1 + k
  | 0 => Nat.zero_le _
  | k + 1 => by
    have h := amost_le p k
    have := alS_le p k k
    simp only [amost]
    split <;> omega
theorem alI_yes {p : Pg} {k m : Nat} (h : (k : Int) ≤ untF p (-1 - m)) : alI p k (m + 1) = alI p k m + 1 := by simp only [alI, b1]; rw [if_pos h]
theorem alI_no {p : Pg} {k m : Nat} (h : ¬ (k : Int) ≤ untF p (-1 - m)) : alI p k (m + 1) = alI p k m := by simp only [alI, b1]; rw [if_neg h]; rfl
theorem alS_yes {p : Pg} {k j : Nat} (hs : setA p j ≠ -1) (h : (k : Int) ≤ untF p j) : alS p k (j + 1) = alS p k j + 1 := by simp only [alS, b1]; rw [if_pos ⟨hs, h⟩]
theorem alS_no {p : Pg} {k j : Nat} (h : ¬ (setA p j ≠ -1 ∧ (k : Int) ≤ untF p j)) : alS p k (j + 1) = alS p k j := by simp only [alS, b1]; rw [if_neg h]; rfl
set_option maxRecDepth 100000 in
set_option maxHeartbeats 16000000 in
theorem roralive_any (v : Value) (p : Pg) (w : World) (h : PgAt w v p) (hr : rightB p = true) (hk2 : p.code.length ≤ 400) :
    Calls Try.prog 19 #[v] w fun e w' => e = .returned (.int .i64 (mostN p p.code.length)) ∧ Below w.heap.size w w' := by
  have HP := hide h
  have HRR := hide hr
  have LN := hide hk2
  have LI := hide (show 1 ≤ p.ins ∧ p.ins ≤ 128 ∧ p.regs ≤ 128 from by have h := right_parts hr; omega)
  obtain ⟨ca, cc, oa, oc, rfl, hc, ho⟩ := h
  clear hc ho hr hk2
  go_enter Try.func19, Try.ntmps19
  go_upto_region 1 with fail
  have hb := below_alloc w (.cells #[.int .i64 p.ins, .int .i64 p.regs, .slice ca p.code.length cc, .slice oa p.outs.length oc] 25)
  have PX := hide (Box4.new w 25 (.int .i64 p.ins) (.int .i64 p.regs) (.slice ca p.code.length cc) (.slice oa p.outs.length oc))
  replace HP := hide (HP.out.below hb)
  have HB := hide hb
  clear hb
  generalize w.alloc (.cells #[.int .i64 p.ins, .int .i64 p.regs, .slice ca p.code.length cc, .slice oa p.outs.length oc] 25) = w1 at *
  obtain ⟨B, hB⟩ : ∃ B, B = w.heap.size := ⟨_, rfl⟩
  have HZ := hide hB
  rw [← hB] at PX ⊢
  clear hB
  have c0 := PX.out.cell0
  have c1 := PX.out.cell1
  have c2 := PX.out.cell2
  have c3 := PX.out.cell3
  go_wp2_with fail
  refine (rneeded_right _ p _ HP.out HRR.out).mono ?_
  rintro e w2 ⟨gn, rfl, hn, hb⟩
  replace PX := hide (PX.out.step hb)
  replace HP := hide (HP.out.below hb)
  have NB := hide hn
  replace HB := hide (HB.out.trans (hb.mono HB.out.size))
  clear hb hn c0 c1 c2 c3
  have WB := hide (Below.refl w2.heap.size w2)
  go_wp2
  go_loopw [4, 5, 6, 7, 8] (fun mv kv _ _ _ wr => ∃ k : Nat, k ≤ p.code.length + 1 ∧ kv = .int .i64 (k : Nat) ∧ mv = .int .i64 (amost p k : Nat) ∧ Below w2.heap.size w2 wr) (fun _ kv _ _ _ _ => p.code.length + 1 - (intOf kv).toNat)
  case atStart => exact ⟨0, Nat.zero_le _, rfl, rfl, WB.out⟩
  case round =>
    clear WB
    obtain ⟨k, hk, rfl, rfl, hb⟩ := hrel
    have WB := hide hb
    clear hb
    have HK := hide hk
    have ln := LN.out
    have c0 := (PX.out.step WB.out).cell0
    have c1 := (PX.out.step WB.out).cell1
    have c2 := (PX.out.step WB.out).cell2
    have c3 := (PX.out.step WB.out).cell3
    by_cases hle : k ≤ p.code.length
    · by_cases hlt : k < p.code.length
      · by_cases hs : setA p k = -1
        · have kn := OwnB.cell (own_below NB.out WB.out) (k := k) (by rw [ndL_lengthO]; exact hlt)
          rw [ndL_get p hlt, show decide (setA p k ≠ -1) = false by simp [hs]] at kn
          have AE : Hid (amost p (k + 1) = amost p k) := hide (by simp only [amost]; exact if_pos ⟨hlt, hs⟩)
          go_wp2
          go_roundw
          case rel => exact ⟨k + 1, by omega, by go_num, by rw [AE.out], WB.out⟩
          case measure => simp [intOf]; omega
        · have kn := OwnB.cell (own_below NB.out WB.out) (k := k) (by rw [ndL_lengthO]; exact hlt)
          rw [ndL_get p hlt, show decide (setA p k ≠ -1) = true by simp [hs]] at kn
          have HN := hide (fun h : k < p.code.length ∧ setA p k = -1 => hs h.2)
          clear hs
          have AE : Hid (amost p (k + 1) = max (amost p k) (alS p k k)) := hide (by simp only [amost]; exact if_neg (fun h => HN.out h))
          have AM := hide (amost_le p k)
          have AS := hide (alS_le p k k)
          generalize hmo : amost p k = mo at *
          have MO := hide hmo
          clear hmo
          go_wp2_with fail
          refine (until_any _ _ p _ (HP.out.below WB.out) (OwnB.bools (own_below NB.out WB.out)) HRR.out LN.out (-1000) (by have := LI.out; have := LN.out; omega)).mono ?_
          rintro e w4 ⟨rfl, hb⟩
          replace WB := hide (WB.out.trans (hb.mono WB.out.size))
          clear hb
          clear c0 c1 c2 c3
          obtain ⟨u, hu⟩ : ∃ u, untF p (-1000) = u := ⟨_, rfl⟩
          have HU := hide hu
          rw [hu]
          clear hu
          go_upto_if 34 with fail
          go_cut [6] from 11 to 74 (fun nv wc => nv = .int .i64 (alI p k 0 : Nat) ∧ wc = w4)
          case first =>
            by_cases hq : (k : Int) ≤ u
            · have e1 : Hid (alI p k 0 = 1) := hide (by simp only [alI, b1]; rw [HU.out, if_pos hq])
              go_wp2
              go_meet
              case rel => exact ⟨by rw [e1.out]; try rfl, by first | trivial | rfl⟩
            · have e1 : Hid (alI p k 0 = 0) := hide (by simp only [alI, b1]; rw [HU.out, if_neg hq])
              go_wp2
              go_meet
              case rel => exact ⟨by rw [e1.out]; try rfl, by first | trivial | rfl⟩
          case rest =>
            obtain ⟨rfl, rfl⟩ := hcut
            have W2 := WB
            have KLE := hide hle
            clear hle
            go_wp2
            go_loopw [6, 7] (fun nv rv wr => ∃ r : Nat, (r : Int) ≤ p.ins ∧ rv = .int .i64 (r : Nat) ∧ nv = .int .i64 (alI p k r : Nat) ∧ Below w2.heap.size w2 wr) (fun _ rv _ => p.ins.toNat - (intOf rv).toNat)
            case atStart => exact ⟨0, by have := LI.out; omega, rfl, rfl, WB.out⟩
            case round =>
              clear WB W2
              obtain ⟨r, hr, rfl, rfl, hb⟩ := hrel
              have WB := hide hb
              clear hb
              have HRW := hide hr
              have li := LI.out
              have AL := hide (alI_le p k r)
              have c0 := (PX.out.step WB.out).cell0
              have c1 := (PX.out.step WB.out).cell1
              have c2 := (PX.out.step WB.out).cell2
              have c3 := (PX.out.step WB.out).cell3
              by_cases hlt : (r : Int) < p.ins
              · go_wp2_with fail
                refine (until_any _ _ p _ (HP.out.below WB.out) (OwnB.bools (own_below NB.out WB.out)) HRR.out LN.out (-1 - (r : Int)) (by have := LI.out; have := LN.out; omega)).mono ?_
                rintro e w4 ⟨rfl, hb⟩
                replace WB := hide (WB.out.trans (hb.mono WB.out.size))
                clear hb
                clear c0 c1 c2 c3
                have AY := hide (alI_yes (p := p) (k := k) (m := r))
                have ANO := hide (alI_no (p := p) (k := k) (m := r))
                obtain ⟨u, hu⟩ : ∃ u, u = untF p (-1 - (r : Int)) := ⟨_, rfl⟩
                rw [← hu] at AY ANO ⊢
                clear hu
                generalize hna : alI p k r = na at *
                have NA := hide hna
                clear hna
                have al2 := AL.out
                have kk := HK.out
                by_cases hq : (k : Int) ≤ u
                · have e1 := hide (AY.out hq)
                  go_wp2
                  go_roundw
                  case rel => exact ⟨r + 1, by omega, by go_num, by rw [e1.out]; go_num, WB.out⟩
                  case measure => simp [intOf]; omega
                · have e1 := hide (ANO.out hq)
                  go_wp2
                  go_roundw
                  case rel => exact ⟨r + 1, by omega, by go_num, by rw [e1.out], WB.out⟩
                  case measure => simp [intOf]; omega
              · have er : r = p.ins.toNat := by omega
                subst er
                have e0 : alI p k p.ins.toNat = alS p k 0 := rfl
                rw [e0]
                clear e0 hr li
                go_wp2
                clear hlt
                go_loopw [6, 8] (fun nv jv wr => ∃ j : Nat, j ≤ k ∧ jv = .int .i64 (j : Nat) ∧ nv = .int .i64 (alS p k j : Nat) ∧ Below w2.heap.size w2 wr) (fun _ jv _ => k - (intOf jv).toNat)
                case atStart => exact ⟨0, Nat.zero_le _, rfl, rfl, WB.out⟩
                case round =>
                  clear WB c0 c1 c2 c3
                  obtain ⟨j, hj, rfl, rfl, hb⟩ := hrel
                  have WB := hide hb
                  clear hb
                  have li2 : p.ins.toNat ≤ 128 := by have := LI.out; omega
                  have ln := LN.out
                  have AL := hide (alS_le p k j)
                  have kk := HK.out
                  have c0 := (PX.out.step WB.out).cell0
                  have c1 := (PX.out.step WB.out).cell1
                  have c2 := (PX.out.step WB.out).cell2
                  have c3 := (PX.out.step WB.out).cell3
                  by_cases hlt : j < k
                  · have hjl : j < p.code.length := by have := KLE.out; omega
                    have kn := OwnB.cell (own_below NB.out WB.out) (k := j) (by rw [ndL_lengthO]; exact hjl)
                    rw [ndL_get p hjl] at kn
                    have JL := hide hlt
                    by_cases hs : setA p j = -1
                    · rw [show decide (setA p j ≠ -1) = false by simp [hs]] at kn
                      have e1 : Hid (alS p k (j + 1) = alS p k j) := hide (alS_no (fun h => h.1 hs))
                      go_wp2
                      go_roundw
                      case rel => exact ⟨j + 1, by omega, by go_num, by rw [e1.out], WB.out⟩
                      case measure => simp [intOf]; omega
                    · rw [show decide (setA p j ≠ -1) = true by simp [hs]] at kn
                      have HS := hide hs
                      clear hs
                      go_wp2_with fail
                      refine (until_any _ _ p _ (HP.out.below WB.out) (OwnB.bools (own_below NB.out WB.out)) HRR.out LN.out (j : Int) (by have := LI.out; have := LN.out; omega)).mono ?_
                      rintro e w4 ⟨rfl, hb⟩
                      replace WB := hide (WB.out.trans (hb.mono WB.out.size))
                      clear hb
                      clear c0 c1 c2 c3
                      clear kn
                      have AY := hide (alS_yes (p := p) (k := k) (j := j) HS.out)
                      have ANO := hide (fun h : ¬ (k : Int) ≤ untF p (j : Int) => alS_no (p := p) (k := k) (j := j) (fun q => h q.2))
                      obtain ⟨u, hu⟩ : ∃ u, u = untF p (j : Int) := ⟨_, rfl⟩
                      rw [← hu] at AY ANO ⊢
                      clear hu
                      generalize hna : alS p k j = na at *
                      have NA := hide hna
                      clear hna
                      have al2 := AL.out
                      by_cases hq : (k : Int) ≤ u
                      · have e1 := hide (AY.out hq)
                        go_wp2
                        go_roundw
                        case rel => exact ⟨j + 1, by omega, by go_num, by rw [e1.out]; try go_num, WB.out⟩
                        case measure => simp [intOf]; omega
                      · have e1 := hide (ANO.out hq)
                        go_wp2
                        go_roundw
                        case rel => exact ⟨j + 1, by omega, by go_num, by rw [e1.out], WB.out⟩
                        case measure => simp [intOf]; omega
                  · have kle := KLE.out
                    have ej : j = k := by omega
                    subst ej
                    obtain ⟨na, hna⟩ : ∃ na, na = alS p j j := ⟨_, rfl⟩
                    rw [← hna] at AE AS ⊢
                    clear hna AL
                    by_cases hq : mo < na
                    · have e1 : Hid (amost p (j + 1) = na) := hide (by rw [AE.out]; omega)
                      go_wp2
                      go_roundw
                      case rel => exact ⟨j + 1, by omega, by go_num, by rw [e1.out], WB.out⟩
                      case measure => simp [intOf]; omega
                    · have e1 : Hid (amost p (j + 1) = mo) := hide (by rw [AE.out]; omega)
                      go_wp2
                      go_roundw
                      case rel => exact ⟨j + 1, by omega, by go_num, by rw [e1.out], WB.out⟩
                      case measure => simp [intOf]; omega
      · have HN := hide (fun h : k < p.code.length ∧ setA p k = -1 => hlt h.1)
        have AE : Hid (amost p (k + 1) = max (amost p k) (alS p k k)) := hide (by simp only [amost]; exact if_neg (fun h => HN.out h))
        have AM := hide (amost_le p k)
        have AS := hide (alS_le p k k)
        generalize hmo : amost p k = mo at *
        have MO := hide hmo
        clear hmo
        go_wp2_with fail
        refine (until_any _ _ p _ (HP.out.below WB.out) (OwnB.bools (own_below NB.out WB.out)) HRR.out LN.out (-1000) (by have := LI.out; have := LN.out; omega)).mono ?_
        rintro e w4 ⟨rfl, hb⟩
        replace WB := hide (WB.out.trans (hb.mono WB.out.size))
        clear hb
        clear c0 c1 c2 c3
        obtain ⟨u, hu⟩ : ∃ u, untF p (-1000) = u := ⟨_, rfl⟩
        have HU := hide hu
        rw [hu]
        clear hu
        go_upto_if 34 with fail
        go_cut [6] from 11 to 74 (fun nv wc => nv = .int .i64 (alI p k 0 : Nat) ∧ wc = w4)
        case first =>
          by_cases hq : (k : Int) ≤ u
          · have e1 : Hid (alI p k 0 = 1) := hide (by simp only [alI, b1]; rw [HU.out, if_pos hq])
            go_wp2
            go_meet
            case rel => exact ⟨by rw [e1.out]; try rfl, by first | trivial | rfl⟩
          · have e1 : Hid (alI p k 0 = 0) := hide (by simp only [alI, b1]; rw [HU.out, if_neg hq])
            go_wp2
            go_meet
            case rel => exact ⟨by rw [e1.out]; try rfl, by first | trivial | rfl⟩
        case rest =>
          obtain ⟨rfl, rfl⟩ := hcut
          have W2 := WB
          have KLE := hide hle
          clear hle
          go_wp2
          go_loopw [6, 7] (fun nv rv wr => ∃ r : Nat, (r : Int) ≤ p.ins ∧ rv = .int .i64 (r : Nat) ∧ nv = .int .i64 (alI p k r : Nat) ∧ Below w2.heap.size w2 wr) (fun _ rv _ => p.ins.toNat - (intOf rv).toNat)
          case atStart => exact ⟨0, by have := LI.out; omega, rfl, rfl, WB.out⟩
          case round =>
            clear WB W2
            obtain ⟨r, hr, rfl, rfl, hb⟩ := hrel
            have WB := hide hb
            clear hb
            have HRW := hide hr
            have li := LI.out
            have AL := hide (alI_le p k r)
            have c0 := (PX.out.step WB.out).cell0
            have c1 := (PX.out.step WB.out).cell1
            have c2 := (PX.out.step WB.out).cell2
            have c3 := (PX.out.step WB.out).cell3
            by_cases hlt : (r : Int) < p.ins
            · go_wp2_with fail
              refine (until_any _ _ p _ (HP.out.below WB.out) (OwnB.bools (own_below NB.out WB.out)) HRR.out LN.out (-1 - (r : Int)) (by have := LI.out; have := LN.out; omega)).mono ?_
              rintro e w4 ⟨rfl, hb⟩
              replace WB := hide (WB.out.trans (hb.mono WB.out.size))
              clear hb
              clear c0 c1 c2 c3
              have AY := hide (alI_yes (p := p) (k := k) (m := r))
              have ANO := hide (alI_no (p := p) (k := k) (m := r))
              obtain ⟨u, hu⟩ : ∃ u, u = untF p (-1 - (r : Int)) := ⟨_, rfl⟩
              rw [← hu] at AY ANO ⊢
              clear hu
              generalize hna : alI p k r = na at *
              have NA := hide hna
              clear hna
              have al2 := AL.out
              have kk := HK.out
              by_cases hq : (k : Int) ≤ u
              · have e1 := hide (AY.out hq)
                go_wp2
                go_roundw
                case rel => exact ⟨r + 1, by omega, by go_num, by rw [e1.out]; go_num, WB.out⟩
                case measure => simp [intOf]; omega
              · have e1 := hide (ANO.out hq)
                go_wp2
                go_roundw
                case rel => exact ⟨r + 1, by omega, by go_num, by rw [e1.out], WB.out⟩
                case measure => simp [intOf]; omega
            · have er : r = p.ins.toNat := by omega
              subst er
              have e0 : alI p k p.ins.toNat = alS p k 0 := rfl
              rw [e0]
              clear e0 hr li
              go_wp2
              clear hlt
              go_loopw [6, 8] (fun nv jv wr => ∃ j : Nat, j ≤ k ∧ jv = .int .i64 (j : Nat) ∧ nv = .int .i64 (alS p k j : Nat) ∧ Below w2.heap.size w2 wr) (fun _ jv _ => k - (intOf jv).toNat)
              case atStart => exact ⟨0, Nat.zero_le _, rfl, rfl, WB.out⟩
              case round =>
                clear WB c0 c1 c2 c3
                obtain ⟨j, hj, rfl, rfl, hb⟩ := hrel
                have WB := hide hb
                clear hb
                have li2 : p.ins.toNat ≤ 128 := by have := LI.out; omega
                have ln := LN.out
                have AL := hide (alS_le p k j)
                have kk := HK.out
                have c0 := (PX.out.step WB.out).cell0
                have c1 := (PX.out.step WB.out).cell1
                have c2 := (PX.out.step WB.out).cell2
                have c3 := (PX.out.step WB.out).cell3
                by_cases hlt : j < k
                · have hjl : j < p.code.length := by have := KLE.out; omega
                  have kn := OwnB.cell (own_below NB.out WB.out) (k := j) (by rw [ndL_lengthO]; exact hjl)
                  rw [ndL_get p hjl] at kn
                  have JL := hide hlt
                  by_cases hs : setA p j = -1
                  · rw [show decide (setA p j ≠ -1) = false by simp [hs]] at kn
                    have e1 : Hid (alS p k (j + 1) = alS p k j) := hide (alS_no (fun h => h.1 hs))
                    go_wp2
                    go_roundw
                    case rel => exact ⟨j + 1, by omega, by go_num, by rw [e1.out], WB.out⟩
                    case measure => simp [intOf]; omega
                  · rw [show decide (setA p j ≠ -1) = true by simp [hs]] at kn
                    have HS := hide hs
                    clear hs
                    go_wp2_with fail
                    refine (until_any _ _ p _ (HP.out.below WB.out) (OwnB.bools (own_below NB.out WB.out)) HRR.out LN.out (j : Int) (by have := LI.out; have := LN.out; omega)).mono ?_
                    rintro e w4 ⟨rfl, hb⟩
                    replace WB := hide (WB.out.trans (hb.mono WB.out.size))
                    clear hb
                    clear c0 c1 c2 c3
                    clear kn
                    have AY := hide (alS_yes (p := p) (k := k) (j := j) HS.out)
                    have ANO := hide (fun h : ¬ (k : Int) ≤ untF p (j : Int) => alS_no (p := p) (k := k) (j := j) (fun q => h q.2))
                    obtain ⟨u, hu⟩ : ∃ u, u = untF p (j : Int) := ⟨_, rfl⟩
                    rw [← hu] at AY ANO ⊢
                    clear hu
                    generalize hna : alS p k j = na at *
                    have NA := hide hna
                    clear hna
                    have al2 := AL.out
                    by_cases hq : (k : Int) ≤ u
                    · have e1 := hide (AY.out hq)
                      go_wp2
                      go_roundw
                      case rel => exact ⟨j + 1, by omega, by go_num, by rw [e1.out]; try go_num, WB.out⟩
                      case measure => simp [intOf]; omega
                    · have e1 := hide (ANO.out hq)
                      go_wp2
                      go_roundw
                      case rel => exact ⟨j + 1, by omega, by go_num, by rw [e1.out], WB.out⟩
                      case measure => simp [intOf]; omega
                · have kle := KLE.out
                  have ej : j = k := by omega
                  subst ej
                  obtain ⟨na, hna⟩ : ∃ na, na = alS p j j := ⟨_, rfl⟩
                  rw [← hna] at AE AS ⊢
                  clear hna AL
                  by_cases hq : mo < na
                  · have e1 : Hid (amost p (j + 1) = na) := hide (by rw [AE.out]; omega)
                    go_wp2
                    go_roundw
                    case rel => exact ⟨j + 1, by omega, by go_num, by rw [e1.out], WB.out⟩
                    case measure => simp [intOf]; omega
                  · have e1 : Hid (amost p (j + 1) = mo) := hide (by rw [AE.out]; omega)
                    go_wp2
                    go_roundw
                    case rel => exact ⟨j + 1, by omega, by go_num, by rw [e1.out], WB.out⟩
                    case measure => simp [intOf]; omega
    · have ek : k = p.code.length + 1 := by omega
      subst ek
      rw [amost_eq HRR.out]
      obtain ⟨mo, hmo⟩ : ∃ mo, mo = mostN p p.code.length := ⟨_, rfl⟩
      rw [← hmo]
      have MO := hide hmo
      clear hmo
      go_wp2
      go_ret
      exact ⟨by rw [← MO.out]; rfl, HB.out.trans (WB.out.mono HB.out.size)⟩
end Go.Proofs.Ytheakienigmkhaa
