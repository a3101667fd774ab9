/- swagelaw15.DeadKnown answers true. -/
import Derived.Test.YtcciojlbfaanmaaDdWk
import Derived.Test.YtcciojlbfaanmaaCalmL
namespace Go.Proofs.Ytcciojlbfaanmaa
open Go.RowKit

def knP : Pg := ⟨2, 3, [⟨6, 2, 1, 0, 7⟩], [0]⟩
def knB : Pg := ⟨1, 3, [⟨3, 1, 2, 0, 0⟩, ⟨1, 2, 1, 0, 0⟩], [2, 2]⟩
def zeP : Pg := ⟨0, 0, [], []⟩
theorem kn_right : rightB knP = true := by decide
theorem kn_pass : ddP knP = ⟨2, 3, [], [0]⟩ := by rfl
theorem kn_ask : askd knP = [true, false, false] := by rfl
theorem knb_right : rightB knB = true := by decide
theorem knb_ask : askd knB = [true, false, true] := by rfl
theorem ze_wrong : rightB zeP = false := by decide
theorem ze_idle : nums (ixsK (idR zeP) (idR zeP).length) = [] := by rfl
theorem ze_at (w : World) : PgAt w (.agg #[.int .i64 0, .int .i64 0, .slice none 0 0, .slice none 0 0]) zeP :=
  ⟨none, 0, none, 0, rfl, ⟨none, 0, rfl, Nat.le_refl _, Nat.zero_le _, fun h => absurd rfl h⟩, ⟨none, 0, rfl, Nat.le_refl _, Nat.zero_le _, fun h => absurd rfl h⟩⟩
set_option maxRecDepth 100000 in
set_option linter.unusedVariables false
set_option maxHeartbeats 16000000 in
theorem dknown_walk (w : World) : Calls Try.prog 5 #[] w fun e w' => e = .returned (.bool true) ∧ Below w.heap.size w w' := by
  have HB := hide (Below.refl w.heap.size w)
  go_enter Try.func5, Try.ntmps5
  go_wp2_with fail
  refine (dwork_any _).mono ?_
  rintro e w1 ⟨rfl, hb⟩
  replace HB := hide (HB.out.trans (hb.mono HB.out.size))
  clear hb
  go_upto_region 4 with fail
  have b1 := below_alloc w1 (.cells #[.int .i64 6, .int .i64 2, .int .i64 1, .int .i64 0, .int .i64 7] 34)
  have b2 := below_alloc (w1.alloc (.cells #[.int .i64 6, .int .i64 2, .int .i64 1, .int .i64 0, .int .i64 7] 34)) (.cells #[.int .i64 0] 3)
  have b3 := below_alloc ((w1.alloc (.cells #[.int .i64 6, .int .i64 2, .int .i64 1, .int .i64 0, .int .i64 7] 34)).alloc (.cells #[.int .i64 0] 3)) (.cells #[.int .i64 2, .int .i64 3, .slice (some ⟨w1.heap.size, 0, none⟩) 1 1, .slice (some ⟨w1.heap.size + 1, 0, none⟩) 1 1] 25)
  have C1 : CodeAt (w1.alloc (.cells #[.int .i64 6, .int .i64 2, .int .i64 1, .int .i64 0, .int .i64 7] 34)) (.slice (some ⟨w1.heap.size, 0, none⟩) 1 1) knP.code := OwnC.at (codeNd w1 knP.code rfl (by decide))
  have C2 : IntsAt ((w1.alloc (.cells #[.int .i64 6, .int .i64 2, .int .i64 1, .int .i64 0, .int .i64 7] 34)).alloc (.cells #[.int .i64 0] 3)) (.slice (some ⟨w1.heap.size + 1, 0, none⟩) 1 1) knP.outs := OwnO.at (intsNd (w1.alloc (.cells #[.int .i64 6, .int .i64 2, .int .i64 1, .int .i64 0, .int .i64 7] 34)) knP.outs (by rw [World.size_alloc]) (by decide))
  have HP : Hid (PgAt (((w1.alloc (.cells #[.int .i64 6, .int .i64 2, .int .i64 1, .int .i64 0, .int .i64 7] 34)).alloc (.cells #[.int .i64 0] 3)).alloc (.cells #[.int .i64 2, .int .i64 3, .slice (some ⟨w1.heap.size, 0, none⟩) 1 1, .slice (some ⟨w1.heap.size + 1, 0, none⟩) 1 1] 25)) (.agg #[.int .i64 2, .int .i64 3, .slice (some ⟨w1.heap.size, 0, none⟩) 1 1, .slice (some ⟨w1.heap.size + 1, 0, none⟩) 1 1]) knP) := hide ⟨_, _, _, _, rfl, (C1.below b2).below b3, C2.below b3⟩
  have PX := hide (Box4.new ((w1.alloc (.cells #[.int .i64 6, .int .i64 2, .int .i64 1, .int .i64 0, .int .i64 7] 34)).alloc (.cells #[.int .i64 0] 3)) 25 (.int .i64 2) (.int .i64 3) (.slice (some ⟨w1.heap.size, 0, none⟩) 1 1) (.slice (some ⟨w1.heap.size + 1, 0, none⟩) 1 1))
  simp only [World.size_alloc] at PX
  replace HB := hide (((HB.out.trans (b1.mono HB.out.size)).trans (b2.mono (Nat.le_trans HB.out.size b1.size))).trans (b3.mono (Nat.le_trans (Nat.le_trans HB.out.size b1.size) b2.size)))
  clear b1 b2 b3 C1 C2
  generalize ((w1.alloc (.cells #[.int .i64 6, .int .i64 2, .int .i64 1, .int .i64 0, .int .i64 7] 34)).alloc (.cells #[.int .i64 0] 3)).alloc (.cells #[.int .i64 2, .int .i64 3, .slice (some ⟨w1.heap.size, 0, none⟩) 1 1, .slice (some ⟨w1.heap.size + 1, 0, none⟩) 1 1] 25) = w2 at *
  generalize w1.heap.size = N at *
  have c0 := PX.out.cell0
  have c1 := PX.out.cell1
  have c2 := PX.out.cell2
  have c3 := PX.out.cell3
  go_wp2_with fail
  refine (dpass_any _ knP _ HP.out (fun _ => by decide)).mono ?_
  rintro e w3 ⟨hR, hb⟩
  unfold DdPassR at hR
  rw [if_pos kn_right, kn_pass] at hR
  obtain ⟨vq, rfl, hown⟩ := hR
  obtain ⟨qa, qc, ra, rc, hv, h1, h2⟩ := id hown.at
  replace hv : vq = .agg #[.int .i64 2, .int .i64 3, .slice qa 0 qc, .slice ra 1 rc] := hv
  subst hv
  clear h1 h2 hown c0 c1 c2 c3
  replace HP := hide (HP.out.below hb)
  replace PX := hide (PX.out.step hb)
  replace HB := hide (HB.out.trans (hb.mono HB.out.size))
  clear hb
  go_upto_region 5 with fail
  have hb := below_alloc w3 (.cells #[.int .i64 2, .int .i64 3, .slice qa 0 qc, .slice ra 1 rc] 25)
  have QX : Hid (Box4 (w3.alloc (.cells #[.int .i64 2, .int .i64 3, .slice qa 0 qc, .slice ra 1 rc] 25)) w3.heap.size 25 (.int .i64 2) (.int .i64 3) (.slice qa 0 qc) (.slice ra 1 rc)) := hide (Box4.new w3 25 _ _ _ _)
  replace HP := hide (HP.out.below hb)
  replace PX := hide (PX.out.step hb)
  replace HB := hide (HB.out.trans (hb.mono HB.out.size))
  clear hb
  generalize w3.alloc (.cells #[.int .i64 2, .int .i64 3, .slice qa 0 qc, .slice ra 1 rc] 25) = w4 at *
  generalize w3.heap.size = Q at *
  have c0 := PX.out.cell0
  have c1 := PX.out.cell1
  have c2 := PX.out.cell2
  have c3 := PX.out.cell3
  go_wp2_with fail
  refine (asked_any _ knP _ HP.out (fun _ => by decide)).mono ?_
  rintro e w5 ⟨hR, hb⟩
  unfold AskR at hR
  rw [if_pos kn_right, kn_ask] at hR
  obtain ⟨ga, he, hoa⟩ := hR
  replace he : e = .returned (.tuple #[.slice (some ⟨ga, 0, none⟩) 3 3, .int .i64 0]) := he
  subst he
  have OA : Hid (BoolsAt w5 (.slice (some ⟨ga, 0, none⟩) 3 3) [true, false, false]) := hide hoa.bools
  clear hoa HP PX c0 c1 c2 c3
  replace QX := hide (QX.out.step hb)
  replace HB := hide (HB.out.trans (hb.mono HB.out.size))
  clear hb
  go_upto_region 6 with fail
  have b1 := below_alloc w5 (.cells #[.int .i64 3, .int .i64 1, .int .i64 2, .int .i64 0, .int .i64 0, .int .i64 1, .int .i64 2, .int .i64 1, .int .i64 0, .int .i64 0] 34)
  have b2 := below_alloc (w5.alloc (.cells #[.int .i64 3, .int .i64 1, .int .i64 2, .int .i64 0, .int .i64 0, .int .i64 1, .int .i64 2, .int .i64 1, .int .i64 0, .int .i64 0] 34)) (.cells #[.int .i64 2, .int .i64 2] 3)
  have C1 : CodeAt (w5.alloc (.cells #[.int .i64 3, .int .i64 1, .int .i64 2, .int .i64 0, .int .i64 0, .int .i64 1, .int .i64 2, .int .i64 1, .int .i64 0, .int .i64 0] 34)) (.slice (some ⟨w5.heap.size, 0, none⟩) 2 2) knB.code := OwnC.at (codeNd w5 knB.code rfl (by decide))
  have C2 : IntsAt ((w5.alloc (.cells #[.int .i64 3, .int .i64 1, .int .i64 2, .int .i64 0, .int .i64 0, .int .i64 1, .int .i64 2, .int .i64 1, .int .i64 0, .int .i64 0] 34)).alloc (.cells #[.int .i64 2, .int .i64 2] 3)) (.slice (some ⟨w5.heap.size + 1, 0, none⟩) 2 2) knB.outs := OwnO.at (intsNd (w5.alloc (.cells #[.int .i64 3, .int .i64 1, .int .i64 2, .int .i64 0, .int .i64 0, .int .i64 1, .int .i64 2, .int .i64 1, .int .i64 0, .int .i64 0] 34)) knB.outs (by rw [World.size_alloc]) (by decide))
  have HP : Hid (PgAt ((w5.alloc (.cells #[.int .i64 3, .int .i64 1, .int .i64 2, .int .i64 0, .int .i64 0, .int .i64 1, .int .i64 2, .int .i64 1, .int .i64 0, .int .i64 0] 34)).alloc (.cells #[.int .i64 2, .int .i64 2] 3)) (.agg #[.int .i64 1, .int .i64 3, .slice (some ⟨w5.heap.size, 0, none⟩) 2 2, .slice (some ⟨w5.heap.size + 1, 0, none⟩) 2 2]) knB) := hide ⟨_, _, _, _, rfl, C1.below b2, C2⟩
  have hb := b1.trans (b2.mono b1.size)
  replace OA := hide (OA.out.below hb)
  replace QX := hide (QX.out.step hb)
  replace HB := hide (HB.out.trans (hb.mono HB.out.size))
  clear hb
  clear b1 b2 C1 C2
  go_wp2_with fail
  refine (asked_any _ knB _ HP.out (fun _ => by decide)).mono ?_
  rintro e w6 ⟨hR, hb⟩
  unfold AskR at hR
  rw [if_pos knb_right, knb_ask] at hR
  obtain ⟨gb, he, hoa⟩ := hR
  replace he : e = .returned (.tuple #[.slice (some ⟨gb, 0, none⟩) 3 3, .int .i64 0]) := he
  subst he
  have OB : Hid (BoolsAt w6 (.slice (some ⟨gb, 0, none⟩) 3 3) [true, false, true]) := hide hoa.bools
  replace OA := hide (OA.out.below hb)
  clear hoa HP
  replace QX := hide (QX.out.step hb)
  replace HB := hide (HB.out.trans (hb.mono HB.out.size))
  clear hb
  go_wp2_with fail
  refine (dpass_any _ zeP _ (ze_at _) (fun h => by rw [ze_wrong] at h; cases h)).mono ?_
  rintro e w7 ⟨hR, hb⟩
  unfold DdPassR at hR
  rw [ze_wrong, if_neg (by decide)] at hR
  subst hR
  replace OA := hide (OA.out.below hb)
  replace OB := hide (OB.out.below hb)
  replace QX := hide (QX.out.step hb)
  replace HB := hide (HB.out.trans (hb.mono HB.out.size))
  clear hb
  go_upto_region 8 with fail
  have hb := below_alloc w7 (.cells #[.int .i64 0, .int .i64 0, .slice none 0 0, .slice none 0 0] 25)
  replace OA := hide (OA.out.below hb)
  replace OB := hide (OB.out.below hb)
  replace QX := hide (QX.out.step hb)
  replace HB := hide (HB.out.trans (hb.mono HB.out.size))
  clear hb
  generalize w7.alloc (.cells #[.int .i64 0, .int .i64 0, .slice none 0 0, .slice none 0 0] 25) = w8 at *
  generalize w7.heap.size = Z at *
  go_wp2_with fail
  refine (asked_any _ zeP _ (ze_at _) (fun h => by rw [ze_wrong] at h; cases h)).mono ?_
  rintro e w9 ⟨hR, hb⟩
  unfold AskR at hR
  rw [ze_wrong, if_neg (by decide)] at hR
  subst hR
  replace OA := hide (OA.out.below hb)
  replace OB := hide (OB.out.below hb)
  replace QX := hide (QX.out.step hb)
  replace HB := hide (HB.out.trans (hb.mono HB.out.size))
  clear hb
  go_upto_region 9 with fail
  have q2 := QX.out.cell2
  have b1 := below_alloc w9 (.cells #[.bool true, .bool false, .bool false] 4)
  have B1 : BoolsAt (w9.alloc (.cells #[.bool true, .bool false, .bool false] 4)) (.slice (some ⟨w9.heap.size, 0, none⟩) 3 3) [true, false, false] := boolsNd w9 [true, false, false] rfl (by decide)
  have KB := hide B1
  replace OA := hide (OA.out.below b1)
  replace OB := hide (OB.out.below b1)
  replace HB := hide (HB.out.trans (b1.mono HB.out.size))
  clear b1 B1
  go_wp2_with fail
  refine (eqbl_any _ _ [true, false, false] [true, false, false] _ OA.out KB.out).mono ?_
  rintro e w10 ⟨rfl, hb⟩
  rw [eqB_yes rfl]
  replace OA := hide (OA.out.below hb)
  replace OB := hide (OB.out.below hb)
  replace HB := hide (HB.out.trans (hb.mono HB.out.size))
  clear hb KB
  clear q2
  have b1 := below_alloc w10 (.cells #[.bool true, .bool false, .bool true] 4)
  have B1 : BoolsAt (w10.alloc (.cells #[.bool true, .bool false, .bool true] 4)) (.slice (some ⟨w10.heap.size, 0, none⟩) 3 3) [true, false, true] := boolsNd w10 [true, false, true] rfl (by decide)
  have KB := hide B1
  replace OA := hide (OA.out.below b1)
  replace OB := hide (OB.out.below b1)
  replace HB := hide (HB.out.trans (b1.mono HB.out.size))
  clear b1 B1
  go_wp2_with fail
  refine (eqbl_any _ _ [true, false, true] [true, false, true] _ OB.out KB.out).mono ?_
  rintro e w11 ⟨rfl, hb⟩
  rw [eqB_yes rfl]
  replace OA := hide (OA.out.below hb)
  replace OB := hide (OB.out.below hb)
  replace HB := hide (HB.out.trans (hb.mono HB.out.size))
  clear hb KB
  go_wp2_with fail
  refine (lidle_any _ zeP _ (ze_at _) (fun h => by rw [ze_wrong] at h; cases h)).mono ?_
  rw [ze_idle]
  rintro e w12 ⟨⟨vo, rfl, hvo⟩, hb⟩
  obtain ⟨na, nc, hna⟩ := own_slice hvo
  replace hna : vo = .slice na 0 nc := hna
  subst hna
  replace HB := hide (HB.out.trans (hb.mono HB.out.size))
  clear hvo hb
  go_wp2
  go_ret
  exact ⟨by first | rfl | simp, HB.out⟩
end Go.Proofs.Ytcciojlbfaanmaa
