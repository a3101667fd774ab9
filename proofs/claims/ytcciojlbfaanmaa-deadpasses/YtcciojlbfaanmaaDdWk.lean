/- swagelaw15.example, works, long. -/
import Derived.Test.YtcciojlbfaanmaaDdPa
import Derived.Test.YtcciojlbfaanmaaDdLi
import Derived.Test.YtcciojlbfaanmaaDdEq
import Derived.Test.YtcciojlbfaanmaaPgRSame
namespace Go.Proofs.Ytcciojlbfaanmaa
open Go.RowKit

theorem codeNd (w : World) (l : List Ins) {n : Nat} (hn : n = w.heap.size) (hl : l.length ≤ 1000) : OwnC (w.alloc (.cells (insCells l).toArray 34)) n (.slice (some ⟨n, 0, none⟩) l.length l.length) l := by
  subst hn
  refine ⟨insCells_length l, .inr ⟨w.heap.size, l.length, (insCells l).toArray, rfl, Nat.le_refl _, heap_alloc_new _ _, Nat.le_refl _, by unfold maxLen; omega, ?_, ?_⟩⟩
  · rw [List.size_toArray, insCells_length]
  · show List.take (l.length * 5) (insCells l) = insCells l
    exact List.take_of_length_le (by rw [insCells_length]; exact Nat.le_refl _)
theorem intsNd (w : World) (l : List Int) {n : Nat} (hn : n = w.heap.size) (hl : l.length ≤ 1000) : OwnO (w.alloc (.cells (intCells l).toArray 3)) n (.slice (some ⟨n, 0, none⟩) l.length l.length) l := by
  subst hn
  have e : (intCells l).length = l.length * 1 := by simp [intCells]
  refine ⟨e, .inr ⟨w.heap.size, l.length, (intCells l).toArray, rfl, Nat.le_refl _, heap_alloc_new _ _, Nat.le_refl _, by unfold maxLen; omega, ?_, ?_⟩⟩
  · rw [List.size_toArray, e]
  · show List.take (l.length * 1) (intCells l) = intCells l
    exact List.take_of_length_le (by rw [e]; exact Nat.le_refl _)
theorem boolsNd (w : World) (l : List Bool) {n : Nat} (hn : n = w.heap.size) (hl : l.length ≤ 1000) : BoolsAt (w.alloc (.cells (boolCells l).toArray 4)) (.slice (some ⟨n, 0, none⟩) l.length l.length) l := by
  subst hn
  have e : (boolCells l).length = l.length * 1 := by simp [boolCells]
  have h : OwnB (w.alloc (.cells (boolCells l).toArray 4)) w.heap.size (.slice (some ⟨w.heap.size, 0, none⟩) l.length l.length) l := by
    refine ⟨e, .inr ⟨w.heap.size, l.length, (boolCells l).toArray, rfl, Nat.le_refl _, heap_alloc_new _ _, Nat.le_refl _, by unfold maxLen; omega, ?_, ?_⟩⟩
    · rw [List.size_toArray, e]
    · show List.take (l.length * 1) (boolCells l) = boolCells l
      exact List.take_of_length_le (by rw [e]; exact Nat.le_refl _)
  exact h.bools
def exP : Pg := ⟨2, 4, [⟨3, 2, 0, 1, 0⟩, ⟨5, 3, 2, 0, 5⟩, ⟨4, 2, 0, 1, 0⟩, ⟨1, 1, 1, 0, 0⟩], [2, 0]⟩
def exQ : Pg := ⟨2, 4, [⟨4, 2, 0, 1, 0⟩], [2, 0]⟩
theorem ex_right : rightB exP = true := by decide
theorem ex_pass : ddP exP = exQ := by rfl
theorem ex_ask : askd exP = [true, true, false, false] := by rfl
theorem ex_idle : nums (ixsK (idR exP) (idR exP).length) = [0, 1, 3] := by rfl
set_option maxRecDepth 100000 in
set_option maxHeartbeats 8000000 in
theorem exm_any (w : World) : Calls Try.prog 46 #[] w fun e w' => (∃ v, e = .returned v ∧ PgAt w' v exP) ∧ Below w.heap.size w w' := by
  go_enter Try.func46, Try.ntmps46
  go_upto_region 1 with fail
  have hb := below_alloc w (.cells #[.int .i64 0, .int .i64 0, .slice none 0 0, .slice none 0 0] 25)
  have RX := hide (Box4.new w 25 (.int .i64 0) (.int .i64 0) (.slice none 0 0) (.slice none 0 0))
  have HB := hide hb
  clear hb
  generalize w.alloc (.cells #[.int .i64 0, .int .i64 0, .slice none 0 0, .slice none 0 0] 25) = w1 at *
  obtain ⟨R, hR⟩ : ∃ R, R = w.heap.size := ⟨_, rfl⟩
  have HR := hide hR
  rw [← hR] at RX ⊢
  clear hR
  have b1 := below_alloc w1 (.cells #[.int .i64 3, .int .i64 2, .int .i64 0, .int .i64 1, .int .i64 0, .int .i64 5, .int .i64 3, .int .i64 2, .int .i64 0, .int .i64 5, .int .i64 4, .int .i64 2, .int .i64 0, .int .i64 1, .int .i64 0, .int .i64 1, .int .i64 1, .int .i64 1, .int .i64 0, .int .i64 0] 34)
  have b2 := below_alloc (w1.alloc (.cells #[.int .i64 3, .int .i64 2, .int .i64 0, .int .i64 1, .int .i64 0, .int .i64 5, .int .i64 3, .int .i64 2, .int .i64 0, .int .i64 5, .int .i64 4, .int .i64 2, .int .i64 0, .int .i64 1, .int .i64 0, .int .i64 1, .int .i64 1, .int .i64 1, .int .i64 0, .int .i64 0] 34)) (.cells #[.int .i64 2, .int .i64 0] 3)
  have C1 : OwnC (w1.alloc (.cells #[.int .i64 3, .int .i64 2, .int .i64 0, .int .i64 1, .int .i64 0, .int .i64 5, .int .i64 3, .int .i64 2, .int .i64 0, .int .i64 5, .int .i64 4, .int .i64 2, .int .i64 0, .int .i64 1, .int .i64 0, .int .i64 1, .int .i64 1, .int .i64 1, .int .i64 0, .int .i64 0] 34)) w1.heap.size (.slice (some ⟨w1.heap.size, 0, none⟩) 4 4) exP.code := codeNd w1 exP.code rfl (by decide)
  have C2 : OwnO ((w1.alloc (.cells #[.int .i64 3, .int .i64 2, .int .i64 0, .int .i64 1, .int .i64 0, .int .i64 5, .int .i64 3, .int .i64 2, .int .i64 0, .int .i64 5, .int .i64 4, .int .i64 2, .int .i64 0, .int .i64 1, .int .i64 0, .int .i64 1, .int .i64 1, .int .i64 1, .int .i64 0, .int .i64 0] 34)).alloc (.cells #[.int .i64 2, .int .i64 0] 3)) (w1.heap.size + 1) (.slice (some ⟨w1.heap.size + 1, 0, none⟩) 2 2) exP.outs := intsNd (w1.alloc (.cells #[.int .i64 3, .int .i64 2, .int .i64 0, .int .i64 1, .int .i64 0, .int .i64 5, .int .i64 3, .int .i64 2, .int .i64 0, .int .i64 5, .int .i64 4, .int .i64 2, .int .i64 0, .int .i64 1, .int .i64 0, .int .i64 1, .int .i64 1, .int .i64 1, .int .i64 0, .int .i64 0] 34)) exP.outs (by rw [World.size_alloc]) (by decide)
  have KC := hide (own_below C1 b2)
  have KO := hide C2
  have RL := hide RX.out.lt
  have B2 := hide (b1.trans (b2.mono b1.size))
  have RY := hide ((RX.out.step b1).step b2)
  clear b1 b2 C1 C2
  have r0 := RY.out.cell0
  have r1 := RY.out.cell1
  have r2 := RY.out.cell2
  have r3 := RY.out.cell3
  have f0 := RY.out.free 0
  have f1 := RY.out.free 1
  have f2 := RY.out.free 2
  have f3 := RY.out.free 3
  go_wp2
  refine ret_pg rfl R _ _ _ _ rfl (RY.out.put _ _ _ _) rfl ?_
  refine ⟨⟨_, rfl, _, _, _, _, rfl, OwnC.at (own_put KC.out RL.out _ _ _ _), OwnO.at (own_put KO.out (Nat.lt_succ_of_lt RL.out) _ _ _ _)⟩, ?_⟩
  exact below_put4 (HB.out.trans (B2.out.mono HB.out.size)) (by have := HR.out; omega) _ _ _ _
set_option maxRecDepth 100000 in
set_option maxHeartbeats 8000000 in
theorem dwork_any (w : World) : Calls Try.prog 20 #[] w fun e w' => e = .returned (.bool true) ∧ Below w.heap.size w w' := by
  have HB := hide (Below.refl w.heap.size w)
  go_enter Try.func20, Try.ntmps20
  go_wp2_with fail
  refine (exm_any _).mono ?_
  rintro e w1 ⟨⟨v, rfl, hpv⟩, hb⟩
  obtain ⟨ca, cc, oa, oc, hv, h1, h2⟩ := id hpv
  replace hv : v = .agg #[.int .i64 2, .int .i64 4, .slice ca 4 cc, .slice oa 2 oc] := hv
  subst hv
  have HP := hide hpv
  clear h1 h2 hpv
  replace HB := hide (HB.out.trans (hb.mono HB.out.size))
  clear hb
  go_wp2_with fail
  refine (dpass_any _ exP _ HP.out (fun _ => by decide)).mono ?_
  rintro e w2 ⟨hR, hb⟩
  unfold DdPassR at hR
  rw [if_pos ex_right, ex_pass] at hR
  obtain ⟨vq, rfl, hown⟩ := hR
  have OQ := hide hown.at
  obtain ⟨qa, qc, ra, rc, hv, h1, h2⟩ := id hown.at
  replace hv : vq = .agg #[.int .i64 2, .int .i64 4, .slice qa 1 qc, .slice ra 2 rc] := hv
  subst hv
  clear h1 h2 hown HP
  replace HB := hide (HB.out.trans (hb.mono HB.out.size))
  clear hb
  go_upto_region 2 with fail
  have hb := below_alloc w2 (.cells #[.int .i64 2, .int .i64 4, .slice qa 1 qc, .slice ra 2 rc] 25)
  have QX : Hid (Box4 (w2.alloc (.cells #[.int .i64 2, .int .i64 4, .slice qa 1 qc, .slice ra 2 rc] 25)) w2.heap.size 25 (.int .i64 2) (.int .i64 4) (.slice qa 1 qc) (.slice ra 2 rc)) := hide (Box4.new w2 25 _ _ _ _)
  replace OQ := hide (OQ.out.below hb)
  replace HB := hide (HB.out.trans (hb.mono HB.out.size))
  clear hb
  generalize w2.alloc (.cells #[.int .i64 2, .int .i64 4, .slice qa 1 qc, .slice ra 2 rc] 25) = w3 at *
  generalize w2.heap.size = Q at *
  go_wp2_with fail
  refine (exm_any _).mono ?_
  rintro e w4 ⟨⟨v, rfl, hpv⟩, hb⟩
  obtain ⟨ca, cc, oa, oc, hv, h1, h2⟩ := id hpv
  replace hv : v = .agg #[.int .i64 2, .int .i64 4, .slice ca 4 cc, .slice oa 2 oc] := hv
  subst hv
  have HP := hide hpv
  clear h1 h2 hpv
  replace OQ := hide (OQ.out.below hb)
  replace QX := hide (QX.out.step hb)
  replace HB := hide (HB.out.trans (hb.mono HB.out.size))
  clear hb
  go_wp2_with fail
  refine (asked_any _ exP _ HP.out (fun _ => by decide)).mono ?_
  rintro e w5 ⟨hR, hb⟩
  unfold AskR at hR
  rw [if_pos ex_right, ex_ask] at hR
  obtain ⟨ga, he, hoa⟩ := hR
  replace he : e = .returned (.tuple #[.slice (some ⟨ga, 0, none⟩) 4 4, .int .i64 0]) := he
  subst he
  have OA : Hid (BoolsAt w5 (.slice (some ⟨ga, 0, none⟩) 4 4) [true, true, false, false]) := hide hoa.bools
  clear hoa HP
  replace OQ := hide (OQ.out.below hb)
  replace QX := hide (QX.out.step hb)
  replace HB := hide (HB.out.trans (hb.mono HB.out.size))
  clear hb
  go_upto_region 3 with fail
  have b1 := below_alloc w5 (.cells #[.int .i64 4, .int .i64 2, .int .i64 0, .int .i64 1, .int .i64 0] 34)
  have b2 := below_alloc (w5.alloc (.cells #[.int .i64 4, .int .i64 2, .int .i64 0, .int .i64 1, .int .i64 0] 34)) (.cells #[.int .i64 2, .int .i64 0] 3)
  have C1 : CodeAt (w5.alloc (.cells #[.int .i64 4, .int .i64 2, .int .i64 0, .int .i64 1, .int .i64 0] 34)) (.slice (some ⟨w5.heap.size, 0, none⟩) 1 1) exQ.code := OwnC.at (codeNd w5 exQ.code rfl (by decide))
  have C2 : IntsAt ((w5.alloc (.cells #[.int .i64 4, .int .i64 2, .int .i64 0, .int .i64 1, .int .i64 0] 34)).alloc (.cells #[.int .i64 2, .int .i64 0] 3)) (.slice (some ⟨w5.heap.size + 1, 0, none⟩) 2 2) exQ.outs := OwnO.at (intsNd (w5.alloc (.cells #[.int .i64 4, .int .i64 2, .int .i64 0, .int .i64 1, .int .i64 0] 34)) exQ.outs (by rw [World.size_alloc]) (by decide))
  have KC := hide (C1.below b2)
  have KO := hide C2
  replace OQ := hide ((OQ.out.below b1).below b2)
  replace OA := hide ((OA.out.below b1).below b2)
  have c0 := QX.out.cell0
  have c1 := QX.out.cell1
  have c2 := QX.out.cell2
  have c3 := QX.out.cell3
  replace HB := hide (HB.out.trans ((b1.trans (b2.mono b1.size)).mono HB.out.size))
  clear b1 b2 C1 C2
  go_wp2_with fail
  refine (rsame_any _ _ exQ exQ _ OQ.out ⟨_, _, _, _, rfl, KC.out, KO.out⟩).mono ?_
  rintro e w6 ⟨rfl, hb⟩
  rw [eqB_yes rfl]
  replace OA := hide (OA.out.below hb)
  replace HB := hide (HB.out.trans (hb.mono HB.out.size))
  clear hb KC KO c0 c1 c2 c3
  have b1 := below_alloc w6 (.cells #[.bool true, .bool true, .bool false, .bool false] 4)
  have B1 : BoolsAt (w6.alloc (.cells #[.bool true, .bool true, .bool false, .bool false] 4)) (.slice (some ⟨w6.heap.size, 0, none⟩) 4 4) [true, true, false, false] := boolsNd w6 [true, true, false, false] rfl (by decide)
  have KB := hide B1
  replace OA := hide (OA.out.below b1)
  replace HB := hide (HB.out.trans (b1.mono HB.out.size))
  clear b1 B1
  go_wp2_with fail
  refine (eqbl_any _ _ [true, true, false, false] [true, true, false, false] _ OA.out KB.out).mono ?_
  rintro e w7 ⟨rfl, hb⟩
  rw [eqB_yes rfl]
  replace HB := hide (HB.out.trans (hb.mono HB.out.size))
  clear hb KB OA
  go_wp2_with fail
  refine (exm_any _).mono ?_
  rintro e w8 ⟨⟨v, rfl, hpv⟩, hb⟩
  obtain ⟨ca, cc, oa, oc, hv, h1, h2⟩ := id hpv
  replace hv : v = .agg #[.int .i64 2, .int .i64 4, .slice ca 4 cc, .slice oa 2 oc] := hv
  subst hv
  have HP := hide hpv
  clear h1 h2 hpv
  replace HB := hide (HB.out.trans (hb.mono HB.out.size))
  clear hb
  go_wp2_with fail
  refine (lidle_any _ exP _ HP.out (fun _ => by decide)).mono ?_
  rw [ex_idle]
  rintro e w9 ⟨⟨vo, rfl, hvo⟩, hb⟩
  obtain ⟨na, nc, hna⟩ := own_slice hvo
  replace hna : vo = .slice na 3 nc := hna
  subst hna
  have OI := hide (OwnO.at hvo)
  clear hvo HP
  replace HB := hide (HB.out.trans (hb.mono HB.out.size))
  clear hb
  have b1 := below_alloc w9 (.cells #[.int .i64 0, .int .i64 1, .int .i64 3] 3)
  have B1 : IntsAt (w9.alloc (.cells #[.int .i64 0, .int .i64 1, .int .i64 3] 3)) (.slice (some ⟨w9.heap.size, 0, none⟩) 3 3) [0, 1, 3] := OwnO.at (intsNd w9 [0, 1, 3] rfl (by decide))
  have KB := hide B1
  replace OI := hide (OI.out.below b1)
  replace HB := hide (HB.out.trans (b1.mono HB.out.size))
  clear b1 B1
  go_wp2_with fail
  refine (eqo_any _ _ [0, 1, 3] [0, 1, 3] _ OI.out KB.out).mono ?_
  rintro e w10 ⟨rfl, hb⟩
  rw [eqB_yes rfl]
  replace HB := hide (HB.out.trans (hb.mono HB.out.size))
  clear hb KB OI
  go_wp2
  go_ret
  exact ⟨by first | rfl | simp, HB.out⟩
def lg15 (p : Pg) : Bool := decide (300 < p.code.length) && decide (p.code.length ≤ 16384)
set_option maxRecDepth 100000 in
set_option maxHeartbeats 4000000 in
theorem lg15_any (v : Value) (p : Pg) (w : World) (h : PgAt w v p) :
    Calls Try.prog 25 #[v] w fun e w' => e = .returned (.bool (lg15 p)) ∧ Below w.heap.size w w' := by
  obtain ⟨ca, cc, oa, oc, rfl, _, _⟩ := h
  unfold lg15
  by_cases q1 : 300 < p.code.length
  · have q1' : (300 : Int) < (p.code.length : Int) := by omega
    by_cases q2 : p.code.length ≤ 16384
    · have q2' : (p.code.length : Int) ≤ (16384 : Int) := by omega
      go_enter Try.func25, Try.ntmps25
      go_wp2
      go_ret
      exact ⟨by simp [q1, q2], below_alloc _ _⟩
    · have q2' : ¬ (p.code.length : Int) ≤ (16384 : Int) := by omega
      go_enter Try.func25, Try.ntmps25
      go_wp2
      go_ret
      exact ⟨by simp, below_alloc _ _⟩
  · have q1' : ¬ (300 : Int) < (p.code.length : Int) := by omega
    go_enter Try.func25, Try.ntmps25
    go_wp2
    go_ret
    exact ⟨by simp, below_alloc _ _⟩
end Go.Proofs.Ytcciojlbfaanmaa
