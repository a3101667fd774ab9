/- limb.divideLong answers the quotient and the remainder of two numbers of several limbs. -/
import Derived.Test.YtmibgcpafccliaaDoorLong
import Derived.Test.YtmibgcpafccliaaDoorTakeAway
import Derived.Test.YtmibgcpafccliaaDoorGuess
import Derived.Test.YtmibgcpafccliaaDoorShr
import Derived.RegionTactic
namespace Go.Proofs.YtmibgcpafccliaaDoor
open Go.RowKit

theorem run_make32 (n : Nat) (hn : n ≤ 4000000000) (kn : Int) (e : kn = (n : Int)) (w : World) :
    (Instr.makeSlice 22 (.int .i64 kn) (.int .i64 kn)).run Tryd.prog w = .ok (.slice (some ⟨w.heap.size, 0, none⟩) n n) (w.alloc (.cells (ints (fil [] n)).toArray 32)) := by
  obtain ⟨i0, hi, hz0, hz1, hz2⟩ := info_parts Tryd.info32
  subst e
  have hr := run_make (P := Tryd.prog) w 22 32 i0 (.int .u32 0) Tryd.underlying22 hi hz0 .i64 .i64 n n (by omega) (Int.le_refl _) (by rw [hz2]; omega) (by omega)
  rw [hr]
  simp only [Int.toNat_natCast, hz1, Nat.mul_one]
  rw [← made_fil]
  rfl

theorem seg_new (w : World) (n : Nat) (hn : n ≤ 4000000000) : Seg (w.alloc (.cells (ints (fil [] n)).toArray 32)) 0 w.heap.size n n (fil [] n) := by
  refine ⟨?_, by simp [fil]⟩
  have := World.ownsRow_lit (base := 0) (e := 32) (size := 1) w (ints (fil [] n)).toArray n (Nat.zero_le _) (by unfold maxLen; omega) (by simp [ints, fil])
  show World.ownsRow _ _ _ _ _ _ _
  simpa using this

theorem two_rows (w : World) (m n : Nat) (hm : m ≤ 4000000000) (hn : n ≤ 4000000000) :
    ∃ W0, W0 = ((w.alloc (.cells (ints (fil [] m)).toArray 32)).alloc (.cells (ints (fil [] n)).toArray 32)).drew ∧ Seg W0 0 w.heap.size m m (fil [] m) ∧ Seg W0 0 (w.heap.size + 1) n n (fil [] n) ∧ Below w.heap.size w W0 := by
  refine ⟨_, rfl, ?_, ?_, ?_⟩
  · exact ((seg_new w m hm).kept (row := none) (World.grownBy_alloc _ (.cells (ints (fil [] n)).toArray 32) _) (by simp) : Seg _ 0 _ _ _ _)
  · have := seg_new (w.alloc (.cells (ints (fil [] m)).toArray 32)) n hn
    rw [World.size_alloc] at this
    exact this
  · exact (((below_alloc w _).trans ((below_alloc _ _).mono (by simp))).drew)

theorem apart_old {w : World} {b off n c g : Nat} {xs : List Nat} (hb : b < w.heap.size) (hg : w.heap.size ≤ g) : Apart (.slice (some ⟨b, off, none⟩) n c) xs g := by
  intro _ ad n' c' he
  simp only [Value.slice.injEq, Option.some.injEq] at he
  obtain ⟨rfl, _, _⟩ := he
  show b ≠ g
  omega

theorem below_gb {w a b : World} {g : Nat} (h : Below w.heap.size w a) (hg : a.grownBy b (some g)) (hge : w.heap.size ≤ g) : Below w.heap.size w b :=
  h.grown hg h.size (fun k e => by cases e; exact hge)

theorem split3 (R : List Nat) (j n : Nat) (h : j + n ≤ R.length) : ∃ R1 P R2, R = R1 ++ (P ++ R2) ∧ R1.length = j ∧ P.length = n :=
  ⟨R.take j, (R.drop j).take n, (R.drop j).drop n, by rw [List.take_append_drop, List.take_append_drop], by rw [List.length_take]; omega, by rw [List.length_take, List.length_drop]; omega⟩

theorem seg_nums {w : World} {base g N cap : Nat} {R : List Nat} (h : Seg w base g N cap R) (ho : Ok R) : Nums w (.slice (some ⟨g, 0, none⟩) N cap) R := h.1.nums h.2 ho

theorem nums_kept {w w' : World} {b off n c : Nat} {xs : List Nat} {row : Option Nat} (h : Nums w (.slice (some ⟨b, off, none⟩) n c) xs) (hg : w.grownBy w' row) (hne : some b ≠ row) : Nums w' (.slice (some ⟨b, off, none⟩) n c) xs := by
  obtain ⟨ho, a, cap, he, h1, h2, h3⟩ := h
  refine ⟨ho, a, cap, he, h1, h2, fun hx => ?_⟩
  obtain ⟨b', off', ha, hc⟩ := h3 hx
  simp only [Value.slice.injEq] at he
  obtain ⟨rfl, rfl, rfl⟩ := he
  simp only [Option.some.injEq, Addr.mk.injEq, and_true] at ha
  obtain ⟨rfl, rfl⟩ := ha
  exact ⟨b, off, rfl, fun i hi => hg.cell (hc i hi) hne⟩

theorem Seg.below {w w' : World} {base g N cap : Nat} {R : List Nat} (h : Seg w base g N cap R) (hb : Below w.heap.size w w') : Seg w' base g N cap R :=
  h.kept (row := none) ⟨hb.os, hb.tape, hb.output, hb.size, fun k hk _ => hb.block k hk⟩ (by simp)

theorem nums_cells {w : World} {b off n c : Nat} {xs : List Nat} (h : Nums w (.slice (some ⟨b, off, none⟩) n c) xs) : ∀ i, i < xs.length → w.cell? ⟨b, off + i, none⟩ = some (.int .u32 (lm xs i : Nat)) := by
  obtain ⟨_, a, cap, he, _, _, h3⟩ := h
  simp only [Value.slice.injEq] at he
  obtain ⟨rfl, _, _⟩ := he
  intro i hi
  obtain ⟨b', off', ha, hc⟩ := h3 (ne_nil hi)
  simp only [Option.some.injEq, Addr.mk.injEq, and_true] at ha
  obtain ⟨rfl, rfl⟩ := ha
  exact hc i hi

theorem gb_one (w : World) (g k : Nat) (u : Value) : w.grownBy (w.setCell ⟨g, k, none⟩ u) (some g) := gb_set (World.grownBy.refl w (some g)) k u

theorem rep_lm (j x : Nat) (A : List Nat) : lm (List.replicate j 0 ++ (x :: A)) j = x := by
  rw [lm_append_right _ _ _ (by simp), List.length_replicate, Nat.sub_self]; rfl

theorem apart_ne {b off n c g : Nat} {xs : List Nat} (h : b ≠ g) : Apart (.slice (some ⟨b, off, none⟩) n c) xs g := by
  intro _ ad n' c' he
  simp only [Value.slice.injEq, Option.some.injEq] at he
  obtain ⟨rfl, _, _⟩ := he
  exact h

theorem rep_set2 (j x y : Nat) (A : List Nat) : (List.replicate j 0 ++ (x :: A)).set j y = List.replicate j 0 ++ (y :: A) := by
  rw [List.set_append_right _ _ (by simp), List.length_replicate, Nat.sub_self]; rfl

set_option maxRecDepth 100000 in
set_option maxHeartbeats 8000000 in
theorem divideLong_any (va vb : Value) (xs ys : List Nat) (k : Nat) (w : World) (ha : Nums w va xs) (hb : Nums w vb ys) (hk : ys.length = k + 2) (htop : 0 < lm ys (k + 1)) (hle : ys.length ≤ xs.length) (hlen : xs.length ≤ 1000000000) :
    Calls Tryd.prog 69 #[va, vb] w fun e w' => ∃ q r, e = .returned (.tuple #[q, r]) ∧ Nums w' q (lim (val xs / val ys)) ∧ Nums w' r (lim (val xs % val ys)) ∧ Below w.heap.size w w' := by
  have HA := hide ha
  have HB := hide hb
  have HK := hide hk
  have HTOP := hide htop
  have hk1 : k + 2 ≤ ys.length := by omega
  have hk2 : ys.length ≤ k + 2 := by omega
  obtain ⟨_, a1, c1, rfl, hl1, hm1, hc1⟩ := ha
  obtain ⟨oy, a2, c2, rfl, hl2, hm2, hc2⟩ := hb
  obtain ⟨b2, off2, rfl, hy⟩ := hc2 (ne_nil (k := k + 1) (by omega))
  obtain ⟨b1, off1, rfl, hx⟩ := hc1 (ne_nil (k := k + 1) (by omega))
  have hyt := hy (k + 1) (by omega)
  have hytb := oy.at (k + 1)
  unfold BB at hytb
  have hb1 : b1 < w.heap.size := World.block_lt_of_cell? w _ (hx 0 (by omega))
  have hb2 : b2 < w.heap.size := World.block_lt_of_cell? w _ hyt
  have HX := hide hx
  have HY := hide hy
  have HOY := hide oy
  clear hx hy hc1 hc2 hk htop oy
  unfold maxLen at hm1 hm2
  have hidx : ys.length - 1 = k + 1 := by omega
  go_enter Tryd.func69, Tryd.ntmps69
  go_wp2
  go_step3
  go_wp2_with fail
  refine (lead_any (lm ys (k + 1)) _ hytb HTOP.out).mono ?_
  rintro e w1 ⟨s, rfl, hs, hs1, hs2, rfl⟩
  have HS1 := hide hs1
  have HS2 := hide hs2
  clear hs1 hs2 hyt
  have hmk1 := fun w => run_make32 (xs.length + 1) (by omega) ((xs.length : Int) + 1) (by omega) w
  have hmk2 := fun w => run_make32 (ys.length + 1) (by omega) ((ys.length : Int) + 1) (by omega) w
  go_wp2
  go_region
  all_goals go_wp2_with fail
  all_goals first
    | (obtain ⟨W0, hW, sr, sb, hB0⟩ := two_rows w (xs.length + 1) (ys.length + 1) (by omega) (by omega); rw [← hW]; obtain ⟨gb, hgb⟩ : ∃ g, g = w.heap.size + 1 := ⟨_, rfl⟩; rw [← hgb] at sb ⊢; obtain ⟨gr, hgr⟩ : ∃ g, g = w.heap.size := ⟨_, rfl⟩; rw [← hgr] at sr ⊢)
    | (obtain ⟨W0, hW, sb, sr, hB0⟩ := two_rows w (ys.length + 1) (xs.length + 1) (by omega) (by omega); rw [← hW]; obtain ⟨gr, hgr⟩ : ∃ g, g = w.heap.size + 1 := ⟨_, rfl⟩; rw [← hgr] at sr ⊢; obtain ⟨gb, hgb⟩ : ∃ g, g = w.heap.size := ⟨_, rfl⟩; rw [← hgb] at sb ⊢)
  all_goals
    have hne : gr ≠ gb := by omega
    have hgr1 : w.heap.size ≤ gr := by omega
    have hgb1 : w.heap.size ≤ gb := by omega
    clear hW hgb hgr hmk1 hmk2
    refine (shiftInto_any _ xs 0 gr (xs.length + 1) (xs.length + 1) _ s [] (fil [] (xs.length + 1)) [] _ (HA.out.below hB0) (apart_old hb1 hgr1) hs (by simpa using sr) (by simp [fil]) (by omega)).mono ?_
    rintro e W1 ⟨rfl, R, hRl, oR, hRv, hsr, hg1⟩
    rw [List.nil_append, List.append_nil] at hsr
    have sb1 := sb.kept hg1 (by simp; omega)
    have hB1 := below_gb hB0 hg1 hgr1
    clear sb sr hg1 hB0
    go_wp2_with fail
    refine (shiftInto_any _ ys 0 gb (ys.length + 1) (ys.length + 1) _ s [] (fil [] (ys.length + 1)) [] _ (HB.out.below hB1) (apart_old hb2 hgb1) hs (by simpa using sb1) (by simp [fil]) (by omega)).mono ?_
    rintro e W2 ⟨rfl, D0, hDl, oD0, hDv, hsb, hg2⟩
    rw [List.nil_append, List.append_nil] at hsb
    have sr2 := hsr.kept hg2 (by simp; omega)
    have hB2 := below_gb hB1 hg2 hgb1
    clear hsr sb1 hg2 hB1
    have hmk3 := fun w => run_make32 (xs.length - ys.length + 1) (by omega) ((xs.length : Int) - (ys.length : Int) + 1) (by omega) w
    obtain ⟨hz, hDv2, hDt⟩ := shifted_top (k := k + 1) (s := s) (by omega) HOY.out oD0 (by omega) hDv HS1.out HS2.out
    have hys : ys.length = k + 1 + 1 := by omega
    have hDN := (seg_nums hsb oD0).take ys.length (by omega)
    rw [← hys] at hDv2 hDt
    have hDlen : (D0.take ys.length).length = ys.length := by rw [List.length_take]; omega
    have oD := oD0.take ys.length
    generalize D0.take ys.length = D at hDv2 hDt hDN hDlen oD
    obtain ⟨T, hT⟩ : ∃ T, T = xs.length - ys.length + 1 := ⟨_, rfl⟩
    have hT1 : T + ys.length ≤ xs.length + 1 := by omega
    have hT2 : xs.length + 1 ≤ T + ys.length := by omega
    have hbound := long_bound (s := s) (val_lt HA.out.ok) hle hs (by have := long_top (k := k + 1) (D := D) (by omega) hDt; rw [hys]; exact this)
    rw [← hT] at hmk3 hbound
    have hgq : gr < W2.heap.size := sr2.lt
    have hgbW : gb < W2.heap.size := hsb.lt
    have hstart := LongAt.start (D := D) oR hRv hbound
    have hQ := seg_new W2 T (by omega)
    have sr3 := sr2.kept (row := none) (World.grownBy_alloc W2 (.cells (ints (fil [] T)).toArray 32) none) (by simp)
    have hDN3 := hDN.below (below_alloc W2 (.cells (ints (fil [] T)).toArray 32))
    have hB3 := hB2.alloc hB2.size (.cells (ints (fil [] T)).toArray 32)
    have HPACK := hide (And.intro hQ (And.intro sr3 (And.intro hDN3 (And.intro hB3 hstart))))
    have HDV := hide hDv2
    have HDT := hide hDt
    have HDL := hide hDlen
    have HOD := hide oD
    have hqs : W2.heap.size ≤ W2.heap.size := Nat.le_refl _
    have hW2 : w.heap.size ≤ W2.heap.size := hB2.size
    clear hz hDv hDv2 hDt hDN hDlen oD hbound hstart hQ sr3 hDN3 hB3 hsb sr2 hB2 oD0 hDl oR hRv hys hqs D0
    have HRL := hide hRl
    clear hRl hT
    go_wp2
    go_step3
    go_wp2
    obtain ⟨gq, hgq2⟩ : ∃ g, g = W2.heap.size := ⟨_, rfl⟩
    rw [← hgq2] at HPACK hgq hgbW hW2 ⊢
    generalize W2.alloc (.cells (ints (fil [] T)).toArray 32) = W3 at HPACK ⊢
    clear hgq2 hmk3
    go_loopw [10] (fun iv wr => ∃ (J : Nat) (R Qs : List Nat), J ≤ T ∧ iv = .int .i64 ((J : Int) - 1) ∧ LongAt (val xs * 2 ^ s) D R Qs J ∧ R.length = xs.length + 1 ∧ Qs.length = T - J ∧ Seg wr 0 gr (xs.length + 1) (xs.length + 1) R ∧ Seg wr 0 gq T T (List.replicate J 0 ++ Qs) ∧ Nums wr (.slice (some ⟨gb, 0, none⟩) ys.length (ys.length + 1)) D ∧ Below w.heap.size w wr) (fun iv _ => (intOf iv + 1).toNat)
    case atStart =>
      obtain ⟨hQ, sr3, hDN3, hB3, hstart⟩ := HPACK.out
      exact ⟨T, R, [], Nat.le_refl _, by go_num, hstart, HRL.out, by simp, sr3, by simpa [fil] using hQ, hDN3, hB3⟩
    case round =>
      clear HPACK HRL
      obtain ⟨J, R', Qs, hJ, rfl, hat, hRl', hQl, hsr, hsq, hDN, hB⟩ := hrel
      cases J with
      | zero =>
        have hyp : 0 < val ys := by
          have e : val ys = val (ys.take (k + 1)) + BB ^ (k + 1) * lm ys (k + 1) := by rw [← take_succ_any, List.take_of_length_le (by omega)]
          have : 0 < BB ^ (k + 1) * lm ys (k + 1) := Nat.mul_pos (Nat.pow_pos BB_pos) HTOP.out
          omega
        have HE := hide (long_end hat HDV.out hyp)
        have hql : Qs.length = T := by rw [hQl]; omega
        rw [List.replicate_zero, List.nil_append] at hsq
        have HNR := hide (seg_nums hsr hat.okR)
        have HNQ := hide (seg_nums hsq hat.okQ)
        have HBW := hide hB
        have hRb : R'.length ≤ 1000000001 := by omega
        clear hat hsr hsq hDN hB hyp hql hQl
        go_wp2_with fail
        refine (shr_any _ R' s _ HNR.out (by omega) (by omega)).mono ?_
        rintro e w4 ⟨v4, rfl, hN4, hb4⟩
        rw [HE.out.2] at hN4
        have HN4 := hide hN4
        have HNQ4 := hide (HNQ.out.below hb4)
        have HB4 := hide (HBW.out.trans (hb4.mono HBW.out.size))
        clear hN4 hb4
        go_wp2_with fail
        refine (trim_any _ _ _ HNQ4.out).mono ?_
        rintro e w5 ⟨v5, rfl, rfl, hN5, _⟩
        rw [HE.out.1] at hN5
        go_wp2
        try rw [Exit.noGoto_ret]
        go_ret2
        exact ⟨_, _, rfl, hN5, HN4.out, HB4.out⟩
      | succ j =>
        rw [show (((j + 1 : Nat) : Int) - 1) = (j : Int) from by omega]
        obtain ⟨R1, P, R2, rfl, hR1, hP⟩ := split3 R' j (ys.length + 1) (by omega)
        have HAT := hide hat
        have HRL' := hide hRl'
        have HQL := hide hQl
        have HSR := hide hsr
        have HSQ := hide hsq
        have HDN := hide hDN
        have HBW := hide hB
        have HR1 := hide hR1
        have HP := hide hP
        clear hat hRl' hQl hsr hsq hDN hB hR1 hP
        have HDP : Hid (0 < val D) := by
          have := HDT.out
          have h2 : BB ^ (k + 1) * lm D (k + 1) ≤ val D := by
            have e : val D = val (D.take (k + 1)) + BB ^ (k + 1) * lm D (k + 1) := by rw [← take_succ_any, List.take_of_length_le (by have := HDL.out; omega)]
            omega
          have h3 : 0 < BB ^ (k + 1) * lm D (k + 1) := Nat.mul_pos (Nat.pow_pos BB_pos) (by omega)
          show 0 < val D
          omega
        have oP : Ok P := fun x hx => HAT.out.okR x (List.mem_append_right _ (List.mem_append_left _ hx))
        have HOP := hide oP
        have hPD := (long_parts HR1.out HP.out HDL.out HOD.out HAT.out.lt).2.2
        have HPD := hide hPD
        clear oP hPD
        go_wp2_with fail
        rw [show j + ys.length + 1 - j = ys.length + 1 from by omega]
        refine (guess_any gb 0 ys.length (ys.length + 1) gr j (ys.length + 1) (xs.length + 1 - j) k P D _ (by have := HDL.out; omega) (by have := HP.out; omega) HOD.out HOP.out (by omega) (by omega) (nums_cells HDN.out) ?_ HDT.out HPD.out (by omega)).mono ?_
        · intro i hi'
          have h1 := HP.out
          have := HSR.out.cell (j + i) (by omega)
          have h2 := mid_lm0 R1 P R2 i hi'
          rw [HR1.out] at h2
          rw [h2] at this
          exact this
        rintro e w4 ⟨g, rfl, hgB, hgg1, hgg2, hb4⟩
        have HG1 := hide hgg1
        have HG2 := hide hgg2
        have HGB : Hid (g < BB) := hgB
        unfold BB at hgB
        have sq4 := HSQ.out.below hb4
        have sr4 := HSR.out.below hb4
        have dn4 := HDN.out.below hb4
        have bl4 := HBW.out.trans (hb4.mono HBW.out.size)
        have hf4 := sq4.free j
        have hc4 := sq4.cell j (by omega)
        have sq5 := sq4.set j g (rep_set j g Qs)
        have sr5 := sr4.kept (gb_one w4 gq j (.int .u32 (g : Nat))) (by simp; omega)
        have dn5 := nums_kept dn4 (gb_one w4 gq j (.int .u32 (g : Nat))) (by simp; omega)
        have bl5 := below_gb bl4 (gb_one w4 gq j (.int .u32 (g : Nat))) (by omega)
        have HSQ5 := hide sq5
        have HSR5 := hide sr5
        have HDN5 := hide dn5
        have HBL5 := hide bl5
        clear sq4 sr4 dn4 bl4 sq5 sr5 dn5 bl5 hb4 hgg1 hgg2 HSQ HSR HDN HBW
        go_wp2_with fail
        have hta := takeAway_any (.slice (some ⟨gb, 0, none⟩) ys.length (ys.length + 1)) D 0 gr (xs.length + 1) (xs.length + 1) (xs.length + 1 - j) g R1 P R2 _ HDN5.out (apart_ne (by omega)) hgB HOP.out HSR5.out (by rw [HP.out, HDL.out])
        rw [HR1.out, HDL.out] at hta
        refine hta.mono ?_
        rintro e w6 ⟨P', b, hb, rfl, hP'l, oP', hsum, hsr6, hg6⟩
        have HSUM := hide hsum
        have HP'L := hide hP'l
        have HOP' := hide oP'
        have HSR6 := hide hsr6
        have HSQ6 := hide (HSQ5.out.kept hg6 (by simp; omega))
        have HDN6 := hide (nums_kept HDN5.out hg6 (by simp; omega))
        have HBL6 := hide (below_gb HBL5.out hg6 hgr1)
        clear hta hsum hP'l oP' hsr6 hg6 HSQ5 HSR5 HDN5 HBL5 hf4 hc4
        rcases (show b = 0 ∨ b = 1 from by omega) with rfl | rfl
        · have HTR := hide (take_right (by have := HSUM.out; rw [Nat.mul_zero, Nat.add_zero] at this; exact this) HDP.out HG1.out)
          go_wp2
          go_roundw
          case rel => exact ⟨j, R1 ++ (P' ++ R2), g :: Qs, by omega, by go_num, HAT.out.step HR1.out HP.out HDL.out HOD.out HOP'.out HTR.out.1 HTR.out.2 HDP.out, HSR6.out.2, by rw [List.length_cons, HQL.out]; omega, HSR6.out, HSQ6.out, HDN6.out, HBL6.out⟩
          case measure => simp [intOf]
        · have hgpos : 1 ≤ g := by
            rcases Nat.eq_zero_or_pos g with h0 | h0
            · exfalso
              have h1 := HSUM.out
              rw [h0, Nat.zero_mul, Nat.mul_one] at h1
              have h2 := val_lt HOP'.out
              rw [HP'L.out] at h2
              omega
            · exact h0
          go_wp2_with fail
          have hgi := giveBack_any (.slice (some ⟨gb, 0, none⟩) ys.length (ys.length + 1)) D 0 gr (xs.length + 1) (xs.length + 1) (xs.length + 1 - j) R1 P' R2 _ HDN6.out (apart_ne (by omega)) HOP'.out HSR6.out (by rw [HP'L.out, HDL.out])
          rw [HR1.out, HDL.out] at hgi
          refine hgi.mono ?_
          rintro e w7 ⟨rfl, P'', o, hP''l, oP'', hsum2, hsr7, hg7⟩
          have sq7 := HSQ6.out.kept hg7 (by simp; omega)
          have hf7 := sq7.free j
          have hc7 := sq7.cell j (by omega)
          rw [rep_lm] at hc7
          have dn7 := nums_kept HDN6.out hg7 (by simp; omega)
          have bl7 := below_gb HBL6.out hg7 hgr1
          have sq8 := sq7.set j (g - 1) (rep_set2 j g (g - 1) Qs)
          have sr8 := hsr7.kept (gb_one w7 gq j (.int .u32 ((g - 1 : Nat) : Int))) (by simp; omega)
          have dn8 := nums_kept dn7 (gb_one w7 gq j (.int .u32 ((g - 1 : Nat) : Int))) (by simp; omega)
          have bl8 := below_gb bl7 (gb_one w7 gq j (.int .u32 ((g - 1 : Nat) : Int))) (by omega)
          have hto : g = val P / val D + 1 ∧ val P'' = val P % val D := by
            refine take_over (K := BB ^ (ys.length + 1)) (o := o) (p' := val P') ?_ HDP.out HG2.out ?_ ?_ ?_ ?_
            · have := HSUM.out; rw [Nat.mul_one] at this; exact this
            · have := val_lt HOP'.out; rw [HP'L.out] at this; exact this
            · exact hsum2
            · have := val_lt oP''; rw [hP''l] at this; exact this
            · have h1 := val_lt HOD.out
              rw [HDL.out] at h1
              have : BB ^ ys.length ≤ BB ^ (ys.length + 1) := Nat.pow_le_pow_right BB_pos (by omega)
              omega
          have HTO := hide hto
          have HSQ8 := hide sq8
          have HSR8 := hide sr8
          have HDN8 := hide dn8
          have HBL8 := hide bl8
          have HOP'' := hide oP''
          have hgI : (g : Int) - 1 = ((g - 1 : Nat) : Int) := by omega
          clear hgi hsum2 hsr7 hg7 sq7 dn7 bl7 sq8 sr8 dn8 bl8 hto oP'' hP''l
          go_wp2
          go_roundw
          case rel => exact ⟨j, R1 ++ (P'' ++ R2), (g - 1) :: Qs, by omega, by go_num, HAT.out.step HR1.out HP.out HDL.out HOD.out HOP''.out (by have := HTO.out.1; omega) HTO.out.2 HDP.out, HSR8.out.2, by rw [List.length_cons, HQL.out]; omega, HSR8.out, HSQ8.out, HDN8.out, HBL8.out⟩
          case measure => simp [intOf]
end Go.Proofs.YtmibgcpafccliaaDoor
