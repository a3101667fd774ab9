/- swagelaw03.RatioBack answers true at all texts and numbers, and turns nothing that was there. -/
import Derived.Test.YtjceiakgedkmcaaRBackA
import Derived.Deep.Cut
namespace Go.Proofs.Ytjceiakgedkmcaa
open Go.RowKit

set_option maxRecDepth 100000 in
set_option maxHeartbeats 16000000 in
theorem rback_walk (a b t : ByteArray) (k : Int) (w : World) (la : a.size ≤ 9223372036854775807) (lb : b.size ≤ 9223372036854775807) (lt : t.size ≤ 9223372036854775807) (hk1 : -9223372036854775808 ≤ k) (hk2 : k ≤ 9223372036854775807) :
    Calls Try.prog 5 #[.agg #[.string a, .string b], .int .i64 k, .string t] w fun e w' => e = .returned (.bool true) ∧ Below w.heap.size w w' := by
  have LA := hide la
  have LB := hide lb
  have LT := hide lt
  have HK := hide (And.intro hk1 hk2)
  clear la lb lt hk1 hk2
  have P0 := BoxF.new w (.string a) (.string b)
  replace P0 := hide P0
  have HB := below_alloc w (.cells #[.string a, .string b] 59)
  replace HB := hide HB
  go_enter Try.func5, Try.ntmps5
  go_wp2_with fail
  generalize (w.alloc (.cells #[.string a, .string b] 59)) = w0 at *
  refine (works3_any _).mono ?_
  rintro e u1 ⟨rfl, hb⟩
  replace P0 := hide (P0.out.step (hb))
  replace HB := hide (HB.out.trans ((hb).mono HB.out.size))
  clear hb
  have hP00 := P0.out.cell0
  have hP01 := P0.out.cell1
  go_wp2_with fail
  clear hP00 hP01
  refine (alone2_any a b _ LA.out LB.out).mono ?_
  rintro e u2 ⟨⟨v, q, ok, rfl, kx, hs⟩, hb⟩
  obtain ⟨s1, m1, n1, c1, t1, o1, p1, d1, rfl, ky⟩ := kx.cells
  have HS := hide hs
  replace P0 := hide (P0.out.step (hb))
  replace HB := hide (HB.out.trans ((hb).mono HB.out.size))
  have I1 := hide (ky)
  clear hb kx ky hs
  go_upto_region 4 with fail
  have al := below_alloc u2 (.cells #[.bool s1, .slice m1 n1 c1, .bool t1, .slice o1 p1 d1] 27)
  replace P0 := hide (P0.out.step (al))
  replace HB := hide (HB.out.trans ((al).mono HB.out.size))
  replace I1 := hide (I1.out.below (al))
  have V1 := hide (Box4.new u2 (.bool s1) (.slice m1 n1 c1) (.bool t1) (.slice o1 p1 d1))
  clear al
  generalize u2.alloc (.cells #[.bool s1, .slice m1 n1 c1, .bool t1, .slice o1 p1 d1] 27) = u2a at *
  generalize u2.heap.size = g1 at *
  have hP00 := P0.out.cell0
  have hP01 := P0.out.cell1
  have lt0 := P0.out.lt
  go_wp2_with fail
  clear lt0
  clear hP00 hP01
  have al := below_alloc u2a (.cells #[.string a, .string b] 59)
  have FL := hide (fracL1 (w := u2a) (t := 59) LA.out LB.out)
  replace P0 := hide (P0.out.step (al))
  replace HB := hide (HB.out.trans ((al).mono HB.out.size))
  replace I1 := hide (I1.out.below (al))
  replace V1 := hide (V1.out.step (al))
  clear al
  generalize u2a.alloc (.cells #[.string a, .string b] 59) = u3 at *
  generalize u2a.heap.size = gl at *
  refine (longL_any _ [(a, b)] _ FL.out).mono ?_
  rintro e u4 ⟨⟨r, rfl, hr⟩, hb⟩
  have HR := hide hr
  replace P0 := hide (P0.out.step (hb))
  replace HB := hide (HB.out.trans ((hb).mono HB.out.size))
  replace I1 := hide (I1.out.below (hb))
  replace V1 := hide (V1.out.step (hb))
  clear hb hr FL
  cases r with
  | true =>
    go_wp2
    go_ret
    exact ⟨rfl, HB.out⟩
  | false =>
  by_cases h8 : 800 < t.size
  · go_wp2
    go_ret
    exact ⟨rfl, HB.out⟩
  have SQ : Hid (SzR 300 q) := hide (HS.out ⟨((HR.out rfl).2 0 (by simp)).1, ((HR.out rfl).2 0 (by simp)).2⟩)
  have T8 : Hid (t.size ≤ 800) := hide (by omega)
  clear HR HS P0
  cases ok with
  | false =>
    clear I1 V1 SQ
    go_wp2_with fail
    refine (rread_rat t _ LT.out).mono ?_
    rintro e y1 ⟨⟨v, q9, p9, b9, rfl, kx, hr⟩, hb⟩
    obtain ⟨s9, m9, n9, c9, t9, o9, p8, d9, rfl, ky⟩ := kx.cells
    have H9 := hide hr
    replace HB := hide (HB.out.trans ((hb).mono HB.out.size))
    have I9 := hide (ky)
    clear hb kx ky hr
    go_upto_region 16 with fail
    have V9 := Box4.new y1 (.bool s9) (.slice m9 n9 c9) (.bool t9) (.slice o9 p8 d9)
    replace V9 := V9.step (below_alloc _ (.cells #[.int .i64 ((p9 : Nat) : Int), .int .i64 ((b9 : Nat) : Int)] 30))
    replace V9 := hide V9
    have S9 := BoxS.new (y1.alloc (.cells #[.bool s9, .slice m9 n9 c9, .bool t9, .slice o9 p8 d9] 27)) (.int .i64 ((p9 : Nat) : Int)) (.int .i64 ((b9 : Nat) : Int))
    simp only [World.size_alloc] at S9
    replace S9 := hide S9
    have al := below_alloc y1 (.cells #[.bool s9, .slice m9 n9 c9, .bool t9, .slice o9 p8 d9] 27)
    replace al := al.trans ((below_alloc _ (.cells #[.int .i64 ((p9 : Nat) : Int), .int .i64 ((b9 : Nat) : Int)] 30)).mono (by simp only [World.size_alloc]; omega))
    replace HB := hide (HB.out.trans ((al).mono HB.out.size))
    replace I9 := hide (I9.out.below (al))
    clear al
    generalize ((y1.alloc (.cells #[.bool s9, .slice m9 n9 c9, .bool t9, .slice o9 p8 d9] 27)).alloc (.cells #[.int .i64 ((p9 : Nat) : Int), .int .i64 ((b9 : Nat) : Int)] 30)) = y1a at *
    generalize y1.heap.size = g9 at *
    by_cases hz : p9 = 0
    · subst hz
      obtain ⟨ht, rfl⟩ := rrd_told H9.out
      have SZ : Hid (SzR 100000000 q9) := hide (H9.out.szr.mono (by decide))
      have HT := hide ht
      clear ht H9
      have hV90 := V9.out.cell0
      have hV91 := V9.out.cell1
      have hV92 := V9.out.cell2
      have hV93 := V9.out.cell3
      have hS90 := S9.out.cell0
      have hS91 := S9.out.cell1
      go_wp2_with fail
      clear hV90 hV91 hV92 hV93
      clear hS90 hS91
      refine (rttext_any _ q9 _ I9.out SZ.out).mono ?_
      rintro e z1 ⟨rfl, hb⟩
      rw [HT.out]
      replace HB := hide (HB.out.trans ((hb).mono HB.out.size))
      replace I9 := hide (I9.out.below (hb))
      replace V9 := hide (V9.out.step (hb))
      replace S9 := hide (S9.out.step (hb))
      clear hb
      go_wp2
      go_ret
      exact ⟨rfl, HB.out⟩
    · have hne : ((p9 : Int) == 0) = false := by simp; omega
      have hV90 := V9.out.cell0
      have hV91 := V9.out.cell1
      have hV92 := V9.out.cell2
      have hV93 := V9.out.cell3
      have hS90 := S9.out.cell0
      have hS91 := S9.out.cell1
      go_wp2
      go_ret
      exact ⟨rfl, HB.out⟩
  | true =>
  go_upto_region 7 with fail
  go_cut [9, 10] from 18 (fun pt0 pt1 wx => ∃ g2 s2 m2 n2 c2 g3 s3 m3 n3 c3, pt0 = .pointer (some ⟨g2, 0, none⟩) ∧ u4.heap.size ≤ g2 ∧ Box wx g2 (.bool s2) (.slice m2 n2 c2) ∧ IntAt wx (.agg #[.bool s2, .slice m2 n2 c2]) q.num ∧ pt1 = .pointer (some ⟨g3, 0, none⟩) ∧ u4.heap.size ≤ g3 ∧ Box wx g3 (.bool s3) (.slice m3 n3 c3) ∧ IntAt wx (.agg #[.bool s3, .slice m3 n3 c3]) (q.den : Int) ∧ g2 ≠ g3 ∧ Below u4.heap.size u4 wx)
  case first =>
    refine wp_facts (fun L T wq => Below u4.heap.size u4 wq ∧ T 7 = .pointer (some ⟨g1, 0, none⟩) ∧ (L 0 = true → T 34 = .agg #[.bool s1, .slice m1 n1 c1, .bool t1, .slice o1 p1 d1]) ∧ (L 2 = true → T 36 = .agg #[.bool s1, .slice m1 n1 c1, .bool t1, .slice o1 p1 d1]) ∧ (L 1 = true → IntAt wq (T 35) q.num) ∧ (L 3 = true → IntAt wq (T 37) (q.den : Int)) ∧ (L 4 = true → PS u4.heap.size wq (T 9)) ∧ (L 4 = true → L 6 = false → PB u4.heap.size wq 25 (T 9) [.bool false, .slice none 0 0]) ∧ (L 5 = true → PS u4.heap.size wq (T 10)) ∧ (L 5 = true → L 7 = false → PB u4.heap.size wq 25 (T 10) [.bool false, .slice none 0 0]) ∧ (L 4 = true → L 5 = true → T 9 ≠ T 10) ∧ (L 6 = true → PV u4.heap.size wq 25 (T 9) (T 35)) ∧ (L 7 = true → PV u4.heap.size wq 25 (T 10) (T 37))) 128 [9, 10, 34, 35, 36, 37] [0, 1, 2, 3, 4, 5, 6, 7] (by kernel_rfl) (by kernel_rfl) (by kernel_rfl) (by kernel_rfl) ?_ ?_ ?_
    · exact ⟨(Below.refl u4.heap.size u4).drew, rfl, no_yet, no_yet, no_yet, no_yet, no_yet, no_yet, no_yet, no_yet, no_yet, no_yet, no_yet⟩
    · intro i hi
      match i, hi with
      | 0, _ =>
        refine StepAt.of (need := []) (later := []) (k := 6) (d := some 34) rfl rfl (by kernel_rfl) (by kernel_rfl) ?_
        intro L T wq ev a he hL hN hM hJ next hnext
        have e7 := (he.tmp 7).trans hJ.2.1
        have hcl0 := ((V1.out).step hJ.1).cell0
        have hcl1 := ((V1.out).step hJ.1).cell1
        have hcl2 := ((V1.out).step hJ.1).cell2
        have hcl3 := ((V1.out).step hJ.1).cell3
        go_simp
        exact hnext _ _ ⟨hJ.1, hJ.2.1, fun _ => rfl, hJ.2.2.2.1, hJ.2.2.2.2.1, hJ.2.2.2.2.2.1, hJ.2.2.2.2.2.2.1, hJ.2.2.2.2.2.2.2.1, hJ.2.2.2.2.2.2.2.2.1, hJ.2.2.2.2.2.2.2.2.2.1, hJ.2.2.2.2.2.2.2.2.2.2.1, hJ.2.2.2.2.2.2.2.2.2.2.2.1, hJ.2.2.2.2.2.2.2.2.2.2.2.2⟩
      | 1, _ =>
        refine StepAt.of (need := [0]) (later := [6]) (k := 6) (d := some 35) rfl rfl (by kernel_rfl) (by kernel_rfl) ?_
        intro L T wq ev a he hL hN hM hJ next hnext
        have e34 := (he.tmp 34).trans (hJ.2.2.1 (hN.1))
        have ef := he.func
        go_simp
        refine (num_any _ q _ (I1.out.below hJ.1)).mono ?_
        rintro e wq' ⟨v, rfl, i, hb⟩
        exact hnext _ _ ⟨hJ.1.trans ((hb).mono hJ.1.size), hJ.2.1, hJ.2.2.1, hJ.2.2.2.1, fun _ => i, fun h => (hJ.2.2.2.2.2.1 h).below (hb), fun h => (hJ.2.2.2.2.2.2.1 h).step (hb), fun h h' => (hJ.2.2.2.2.2.2.2.1 h h').step (hb), fun h => (hJ.2.2.2.2.2.2.2.2.1 h).step (hb), fun h h' => (hJ.2.2.2.2.2.2.2.2.2.1 h h').step (hb), hJ.2.2.2.2.2.2.2.2.2.2.1, fun h => clash (hM.1) h, fun h => (hJ.2.2.2.2.2.2.2.2.2.2.2.2 h).step (hb)⟩
      | 2, _ =>
        refine StepAt.of (need := []) (later := []) (k := 6) (d := some 36) rfl rfl (by kernel_rfl) (by kernel_rfl) ?_
        intro L T wq ev a he hL hN hM hJ next hnext
        have e7 := (he.tmp 7).trans hJ.2.1
        have hcl0 := ((V1.out).step hJ.1).cell0
        have hcl1 := ((V1.out).step hJ.1).cell1
        have hcl2 := ((V1.out).step hJ.1).cell2
        have hcl3 := ((V1.out).step hJ.1).cell3
        go_simp
        exact hnext _ _ ⟨hJ.1, hJ.2.1, hJ.2.2.1, fun _ => rfl, hJ.2.2.2.2.1, hJ.2.2.2.2.2.1, hJ.2.2.2.2.2.2.1, hJ.2.2.2.2.2.2.2.1, hJ.2.2.2.2.2.2.2.2.1, hJ.2.2.2.2.2.2.2.2.2.1, hJ.2.2.2.2.2.2.2.2.2.2.1, hJ.2.2.2.2.2.2.2.2.2.2.2.1, hJ.2.2.2.2.2.2.2.2.2.2.2.2⟩
      | 3, _ =>
        refine StepAt.of (need := [2]) (later := [7]) (k := 6) (d := some 37) rfl rfl (by kernel_rfl) (by kernel_rfl) ?_
        intro L T wq ev a he hL hN hM hJ next hnext
        have e36 := (he.tmp 36).trans (hJ.2.2.2.1 (hN.1))
        have ef := he.func
        go_simp
        refine (den_any _ q _ (I1.out.below hJ.1)).mono ?_
        rintro e wq' ⟨v, rfl, i, hb⟩
        exact hnext _ _ ⟨hJ.1.trans ((hb).mono hJ.1.size), hJ.2.1, hJ.2.2.1, hJ.2.2.2.1, fun h => (hJ.2.2.2.2.1 h).below (hb), fun _ => i, fun h => (hJ.2.2.2.2.2.2.1 h).step (hb), fun h h' => (hJ.2.2.2.2.2.2.2.1 h h').step (hb), fun h => (hJ.2.2.2.2.2.2.2.2.1 h).step (hb), fun h h' => (hJ.2.2.2.2.2.2.2.2.2.1 h h').step (hb), hJ.2.2.2.2.2.2.2.2.2.2.1, fun h => (hJ.2.2.2.2.2.2.2.2.2.2.2.1 h).step (hb), fun h => clash (hM.1) h⟩
      | 4, _ =>
        refine StepAt.of (need := []) (later := [6]) (k := 6) (d := some 9) rfl rfl (by kernel_rfl) (by kernel_rfl) ?_
        intro L T wq ev a he hL hN hM hJ next hnext
        go_simp
        have hb := below_alloc wq (.cells #[.bool false, .slice none 0 0] 25)
        exact hnext _ _ ⟨hJ.1.trans ((hb).mono hJ.1.size), hJ.2.1, hJ.2.2.1, hJ.2.2.2.1, fun h => (hJ.2.2.2.2.1 h).below (hb), fun h => (hJ.2.2.2.2.2.1 h).below (hb), fun _ => PS.new hJ.1.size _, fun _ _ => PB.new hJ.1.size _ [.bool false, .slice none 0 0], fun h => (hJ.2.2.2.2.2.2.2.2.1 h).step (hb), fun h h' => (hJ.2.2.2.2.2.2.2.2.2.1 h h').step (hb), fun _ h => Ne.symm (hJ.2.2.2.2.2.2.2.2.1 h).ne, fun h => clash (hM.1) h, fun h => (hJ.2.2.2.2.2.2.2.2.2.2.2.2 h).step (hb)⟩
      | 5, _ =>
        refine StepAt.of (need := []) (later := [7]) (k := 6) (d := some 10) rfl rfl (by kernel_rfl) (by kernel_rfl) ?_
        intro L T wq ev a he hL hN hM hJ next hnext
        go_simp
        have hb := below_alloc wq (.cells #[.bool false, .slice none 0 0] 25)
        exact hnext _ _ ⟨hJ.1.trans ((hb).mono hJ.1.size), hJ.2.1, hJ.2.2.1, hJ.2.2.2.1, fun h => (hJ.2.2.2.2.1 h).below (hb), fun h => (hJ.2.2.2.2.2.1 h).below (hb), fun h => (hJ.2.2.2.2.2.2.1 h).step (hb), fun h h' => (hJ.2.2.2.2.2.2.2.1 h h').step (hb), fun _ => PS.new hJ.1.size _, fun _ _ => PB.new hJ.1.size _ [.bool false, .slice none 0 0], fun h _ => (hJ.2.2.2.2.2.2.1 h).ne, fun h => (hJ.2.2.2.2.2.2.2.2.2.2.2.1 h).step (hb), fun h => clash (hM.1) h⟩
      | 6, _ =>
        refine StepAt.of (need := [4, 1, 5]) (later := []) (k := 6) (d := none) rfl rfl (by kernel_rfl) (by kernel_rfl) ?_
        intro L T wq ev a he hL hN hM hJ next hnext
        obtain ⟨g, hg, hge, hbx⟩ := hJ.2.2.2.2.2.2.2.1 (hN.1) hL
        obtain ⟨sv, mv, nv, cv, hv, iv⟩ := (hJ.2.2.2.2.1 (hN.2.1)).cells
        have e9 := (he.tmp 9).trans hg
        have e35 := (he.tmp 35).trans hv
        have hc0 := hbx.cell 0 rfl
        have hf0 := hbx.free 0
        have hc1 := hbx.cell 1 rfl
        have hf1 := hbx.free 1
        have hk := keeps_all hbx (by intro c hc z e; subst e; simp at hc) [.bool sv, .slice mv nv cv] rfl
        go_simp
        exact hnext undef _ ⟨below_all hge [.bool sv, .slice mv nv cv] 0 _ hJ.1, hJ.2.1, hJ.2.2.1, hJ.2.2.2.1, fun h => (hJ.2.2.2.2.1 h).keep hk, fun h => (hJ.2.2.2.2.2.1 h).keep hk, fun h => (hJ.2.2.2.2.2.2.1 h).put [.bool sv, .slice mv nv cv], fun _ h => no_more h, fun h => (hJ.2.2.2.2.2.2.2.2.1 h).put [.bool sv, .slice mv nv cv], fun h h' => (hJ.2.2.2.2.2.2.2.2.2.1 h h').put hg (hJ.2.2.2.2.2.2.2.2.2.2.1 (hN.1) (hN.2.2.1)) [.bool sv, .slice mv nv cv], hJ.2.2.2.2.2.2.2.2.2.2.1, fun _ => PV.set' [.bool sv, .slice mv nv cv] hg hv hbx hge rfl, fun h => (hJ.2.2.2.2.2.2.2.2.2.2.2.2 h).put hg (hJ.2.2.2.2.2.2.2.2.2.2.1 (hN.1) (hN.2.2.1)) [.bool sv, .slice mv nv cv]⟩
      | 7, _ =>
        refine StepAt.of (need := [5, 3, 4]) (later := []) (k := 6) (d := none) rfl rfl (by kernel_rfl) (by kernel_rfl) ?_
        intro L T wq ev a he hL hN hM hJ next hnext
        obtain ⟨g, hg, hge, hbx⟩ := hJ.2.2.2.2.2.2.2.2.2.1 (hN.1) hL
        obtain ⟨sv, mv, nv, cv, hv, iv⟩ := (hJ.2.2.2.2.2.1 (hN.2.1)).cells
        have e10 := (he.tmp 10).trans hg
        have e37 := (he.tmp 37).trans hv
        have hc0 := hbx.cell 0 rfl
        have hf0 := hbx.free 0
        have hc1 := hbx.cell 1 rfl
        have hf1 := hbx.free 1
        have hk := keeps_all hbx (by intro c hc z e; subst e; simp at hc) [.bool sv, .slice mv nv cv] rfl
        go_simp
        exact hnext undef _ ⟨below_all hge [.bool sv, .slice mv nv cv] 0 _ hJ.1, hJ.2.1, hJ.2.2.1, hJ.2.2.2.1, fun h => (hJ.2.2.2.2.1 h).keep hk, fun h => (hJ.2.2.2.2.2.1 h).keep hk, fun h => (hJ.2.2.2.2.2.2.1 h).put [.bool sv, .slice mv nv cv], fun h h' => (hJ.2.2.2.2.2.2.2.1 h h').put hg (Ne.symm (hJ.2.2.2.2.2.2.2.2.2.2.1 (hN.2.2.1) (hN.1))) [.bool sv, .slice mv nv cv], fun h => (hJ.2.2.2.2.2.2.2.2.1 h).put [.bool sv, .slice mv nv cv], fun _ h => no_more h, hJ.2.2.2.2.2.2.2.2.2.2.1, fun h => (hJ.2.2.2.2.2.2.2.2.2.2.2.1 h).put hg (Ne.symm (hJ.2.2.2.2.2.2.2.2.2.2.1 (hN.2.2.1) (hN.1))) [.bool sv, .slice mv nv cv], fun _ => PV.set' [.bool sv, .slice mv nv cv] hg hv hbx hge rfl⟩
      | k + 8, hi => exact absurd hi (Nat.not_lt.2 (Nat.le_add_left 8 k))
    · intro L a wq hA hJ hs hd hf
      obtain ⟨g2, cs0, hp0, hge0, hv0, hb0⟩ := hJ.2.2.2.2.2.2.2.2.2.2.2.1 (hA.2.2.2.2.2.2.1)
      have i0 := hJ.2.2.2.2.1 (hA.2.1)
      obtain ⟨s2, m2, n2, c2, hq0, i0⟩ := i0.cells
      rw [hq0, Value.agg.injEq] at hv0
      have hl0 : cs0 = _ := congrArg Array.toList hv0.symm
      subst hl0
      obtain ⟨g3, cs1, hp1, hge1, hv1, hb1⟩ := hJ.2.2.2.2.2.2.2.2.2.2.2.2 (hA.2.2.2.2.2.2.2.1)
      have i1 := hJ.2.2.2.2.2.1 (hA.2.2.2.1)
      obtain ⟨s3, m3, n3, c3, hq1, i1⟩ := i1.cells
      rw [hq1, Value.agg.injEq] at hv1
      have hl1 : cs1 = _ := congrArg Array.toList hv1.symm
      subst hl1
      have hne0_1 : g2 ≠ g3 := fun e => hJ.2.2.2.2.2.2.2.2.2.2.1 (hA.2.2.2.2.1) (hA.2.2.2.2.2.1) (hp0.trans (e ▸ hp1.symm))
      refine (by assumption : ∀ a' w', Met _ a' w' → _) _ _ (Met.intro ((by assumption : ∀ a' w', _ → _) _ _ ?_))
      exact ⟨a.tmps.getD 9 undef, a.tmps.getD 10 undef, a.tmps.getD 18 undef, a.tmps.getD 19 undef, a.tmps.getD 20 undef, a.tmps.getD 21 undef, a.tmps.getD 22 undef, a.tmps.getD 23 undef, a.tmps.getD 24 undef, a.tmps.getD 25 undef, a.tmps.getD 26 undef, a.tmps.getD 27 undef, a.tmps.getD 28 undef, a.tmps.getD 29 undef, a.tmps.getD 30 undef, a.tmps.getD 31 undef, a.tmps.getD 32 undef, a.tmps.getD 33 undef, a.tmps.getD 34 undef, a.tmps.getD 35 undef, a.tmps.getD 36 undef, a.tmps.getD 37 undef, a.tmps.getD 38 undef, a.tmps.getD 39 undef, a.tmps.getD 40 undef, a.tmps.getD 41 undef, a.tmps.getD 42 undef, a.tmps.getD 43 undef, a.tmps.getD 44 undef, a.tmps.getD 45 undef, a.tmps.getD 46 undef, a.tmps.getD 47 undef, a.tmps.getD 48 undef, a.tmps.getD 49 undef, a.tmps.getD 50 undef, a.tmps.getD 51 undef, a.tmps.getD 52 undef, a.tmps.getD 53 undef, a.tmps.getD 54 undef, a.tmps.getD 55 undef, a.tmps.getD 56 undef, a.tmps.getD 57 undef, a.tmps.getD 58 undef, a.tmps.getD 59 undef, a.tmps.getD 60 undef, a.tmps.getD 61 undef, a.tmps.getD 62 undef, a.tmps.getD 63 undef, a.tmps.getD 64 undef, a.tmps.getD 65 undef, a.tmps.getD 66 undef, a.tmps.getD 67 undef, a.tmps.getD 68 undef, a.tmps.getD 69 undef, a.tmps.getD 70 undef, a.tmps.getD 71 undef, a.tmps.getD 72 undef, a.tmps.getD 73 undef, a.tmps.getD 74 undef, a.tmps.getD 75 undef, a.tmps.getD 76 undef, a.tmps.getD 77 undef, a.tmps.getD 78 undef, a.tmps.getD 79 undef, a.tmps.getD 80 undef, a.tmps.getD 81 undef, a.tmps.getD 82 undef, a.tmps.getD 83 undef, a.tmps.getD 84 undef, a.tmps.getD 85 undef, a.tmps.getD 86 undef, a.tmps.getD 87 undef, a.tmps.getD 88 undef, a.tmps.getD 89 undef, a.tmps.getD 90 undef, a.tmps.getD 91 undef, a.tmps.getD 92 undef, a.tmps.getD 93 undef, a.tmps.getD 94 undef, a.tmps.getD 95 undef, a.tmps.getD 96 undef, a.tmps.getD 97 undef, a.tmps.getD 98 undef, a.tmps.getD 99 undef, a.tmps.getD 100 undef, a.tmps.getD 101 undef, a.tmps.getD 102 undef, a.tmps.getD 103 undef, a.tmps.getD 104 undef, a.tmps.getD 105 undef, a.tmps.getD 106 undef, a.tmps.getD 107 undef, a.tmps.getD 108 undef, a.tmps.getD 109 undef, a.tmps.getD 110 undef, a.tmps.getD 111 undef, a.tmps.getD 112 undef, a.tmps.getD 113 undef, a.tmps.getD 114 undef, a.tmps.getD 115 undef, a.tmps.getD 116 undef, a.tmps.getD 117 undef, a.tmps.getD 118 undef, a.tmps.getD 119 undef, a.tmps.getD 120 undef, a.tmps.getD 121 undef, a.tmps.getD 122 undef, a.tmps.getD 123 undef, a.tmps.getD 124 undef, a.tmps.getD 125 undef, a.tmps.getD 126 undef, a.tmps.getD 127 undef, ⟨g2, s2, m2, n2, c2, g3, s3, m3, n3, c3, hp0, hge0, hb0, i0, hp1, hge1, hb1, i1, hne0_1, hJ.1⟩, act_eq _ _ [9, 10, 18, 19, 20, 21, 22, 23, 24, 25, 26, 27, 28, 29, 30, 31, 32, 33, 34, 35, 36, 37, 38, 39, 40, 41, 42, 43, 44, 45, 46, 47, 48, 49, 50, 51, 52, 53, 54, 55, 56, 57, 58, 59, 60, 61, 62, 63, 64, 65, 66, 67, 68, 69, 70, 71, 72, 73, 74, 75, 76, 77, 78, 79, 80, 81, 82, 83, 84, 85, 86, 87, 88, 89, 90, 91, 92, 93, 94, 95, 96, 97, 98, 99, 100, 101, 102, 103, 104, 105, 106, 107, 108, 109, 110, 111, 112, 113, 114, 115, 116, 117, 118, 119, 120, 121, 122, 123, 124, 125, 126, 127] hf (by kernel_rfl) (hs.trans (by kernel_rfl)) hd (by kernel_rfl)⟩
  case rest =>
  obtain ⟨g2, s2, m2, n2, c2, g3, s3, m3, n3, c3, rfl, hge0, hbx0, hi0, rfl, hge1, hbx1, hi1, hne0_1, hb⟩ := hcut
  replace HB := hide (HB.out.trans ((hb).mono HB.out.size))
  replace I1 := hide (I1.out.below (hb))
  replace V1 := hide (V1.out.step (hb))
  have V2 := hide hbx0
  have I2 := hide hi0
  have V3 := hide hbx1
  have I3 := hide hi1
  clear hb hge0 hbx0 hi0 hge1 hbx1 hi1 hne0_1
  generalize hwc : wc = wc7 at *
  clear hwc
  have DZ : Hid ((q.den : Int) ≠ 0) := hide (by have := q.den_nz; omega)
  have S8 : Hid (SzR 100000000 q) := hide (SQ.out.mono (by decide))
  have hV20 := V2.out.cell0
  have hV21 := V2.out.cell1
  have hV30 := V3.out.cell0
  have hV31 := V3.out.cell1
  go_wp2_with fail
  clear hV20 hV21
  clear hV30 hV31
  refine (rtmake_any _ _ q.num (q.den : Int) _ I2.out I3.out (SzI.len SQ.out.num (by decide)) (SzI.len SQ.out.den (by decide)) DZ.out).mono ?_
  rintro e x1 ⟨v, rfl, kx, hb⟩
  rw [Rat.num_divInt_den] at kx
  obtain ⟨s4, m4, n4, c4, t4, o4, p4, d4, rfl, ky⟩ := kx.cells
  replace HB := hide (HB.out.trans ((hb).mono HB.out.size))
  replace I1 := hide (I1.out.below (hb))
  replace V1 := hide (V1.out.step (hb))
  replace V2 := hide (V2.out.step (hb))
  replace I2 := hide (I2.out.below (hb))
  replace V3 := hide (V3.out.step (hb))
  replace I3 := hide (I3.out.below (hb))
  have I4 := hide (ky)
  clear hb kx ky
  go_upto_region 9 with fail
  have al := below_alloc x1 (.cells #[.bool s4, .slice m4 n4 c4, .bool t4, .slice o4 p4 d4] 27)
  replace HB := hide (HB.out.trans ((al).mono HB.out.size))
  replace I1 := hide (I1.out.below (al))
  replace V1 := hide (V1.out.step (al))
  replace V2 := hide (V2.out.step (al))
  replace I2 := hide (I2.out.below (al))
  replace V3 := hide (V3.out.step (al))
  replace I3 := hide (I3.out.below (al))
  replace I4 := hide (I4.out.below (al))
  have V4 := hide (Box4.new x1 (.bool s4) (.slice m4 n4 c4) (.bool t4) (.slice o4 p4 d4))
  clear al
  generalize x1.alloc (.cells #[.bool s4, .slice m4 n4 c4, .bool t4, .slice o4 p4 d4] 27) = x1a at *
  generalize x1.heap.size = g4 at *
  have hV10 := V1.out.cell0
  have hV11 := V1.out.cell1
  have hV12 := V1.out.cell2
  have hV13 := V1.out.cell3
  go_wp2_with fail
  clear hV10 hV11 hV12 hV13
  refine (rttext_any _ q _ I1.out S8.out).mono ?_
  rintro e x2 ⟨rfl, hb⟩
  replace HB := hide (HB.out.trans ((hb).mono HB.out.size))
  replace I1 := hide (I1.out.below (hb))
  replace V1 := hide (V1.out.step (hb))
  replace V2 := hide (V2.out.step (hb))
  replace I2 := hide (I2.out.below (hb))
  replace V3 := hide (V3.out.step (hb))
  replace I3 := hide (I3.out.below (hb))
  replace I4 := hide (I4.out.below (hb))
  replace V4 := hide (V4.out.step (hb))
  clear hb
  have RS := hide (rtxt_small SQ.out)
  go_wp2_with fail
  refine (rread_rat (rtxt q) _ (Nat.le_trans RS.out (by decide))).mono ?_
  rintro e x3 ⟨⟨v, q5, pp, bb, rfl, kx, hr⟩, hb⟩
  obtain ⟨rfl, rfl, rfl⟩ := rrd_back RS.out hr
  obtain ⟨s5, m5, n5, c5, t5, o5, p5, d5, rfl, ky⟩ := kx.cells
  replace HB := hide (HB.out.trans ((hb).mono HB.out.size))
  replace I1 := hide (I1.out.below (hb))
  replace V1 := hide (V1.out.step (hb))
  replace V2 := hide (V2.out.step (hb))
  replace I2 := hide (I2.out.below (hb))
  replace V3 := hide (V3.out.step (hb))
  replace I3 := hide (I3.out.below (hb))
  replace I4 := hide (I4.out.below (hb))
  replace V4 := hide (V4.out.step (hb))
  have I5 := hide (ky)
  clear hb kx ky hr
  go_upto_region 10 with fail
  have V5 := Box4.new x3 (.bool s5) (.slice m5 n5 c5) (.bool t5) (.slice o5 p5 d5)
  replace V5 := V5.step (below_alloc _ (.cells #[.int .i64 ((0 : Nat) : Int), .int .i64 ((0 : Nat) : Int)] 30))
  replace V5 := hide V5
  have S5 := BoxS.new (x3.alloc (.cells #[.bool s5, .slice m5 n5 c5, .bool t5, .slice o5 p5 d5] 27)) (.int .i64 ((0 : Nat) : Int)) (.int .i64 ((0 : Nat) : Int))
  simp only [World.size_alloc] at S5
  replace S5 := hide S5
  have al := below_alloc x3 (.cells #[.bool s5, .slice m5 n5 c5, .bool t5, .slice o5 p5 d5] 27)
  replace al := al.trans ((below_alloc _ (.cells #[.int .i64 ((0 : Nat) : Int), .int .i64 ((0 : Nat) : Int)] 30)).mono (by simp only [World.size_alloc]; omega))
  replace HB := hide (HB.out.trans ((al).mono HB.out.size))
  replace I1 := hide (I1.out.below (al))
  replace V1 := hide (V1.out.step (al))
  replace V2 := hide (V2.out.step (al))
  replace I2 := hide (I2.out.below (al))
  replace V3 := hide (V3.out.step (al))
  replace I3 := hide (I3.out.below (al))
  replace I4 := hide (I4.out.below (al))
  replace V4 := hide (V4.out.step (al))
  replace I5 := hide (I5.out.below (al))
  clear al
  generalize ((x3.alloc (.cells #[.bool s5, .slice m5 n5 c5, .bool t5, .slice o5 p5 d5] 27)).alloc (.cells #[.int .i64 ((0 : Nat) : Int), .int .i64 ((0 : Nat) : Int)] 30)) = x3a at *
  generalize x3.heap.size = g5 at *
  have SG : Hid (sgnI (q5.den : Int) = 1) := hide (by have := q5.den_nz; unfold sgnI; rw [if_neg (by omega), if_neg (by omega)])
  have hV30 := V3.out.cell0
  have hV31 := V3.out.cell1
  go_wp2_with fail
  clear hV30 hV31
  refine (isign_any _ (q5.den : Int) _ I3.out).mono ?_
  rintro e w1 ⟨he, hb⟩
  rw [SG.out] at he
  subst he
  replace HB := hide (HB.out.trans ((hb).mono HB.out.size))
  replace I1 := hide (I1.out.below (hb))
  replace V1 := hide (V1.out.step (hb))
  replace V2 := hide (V2.out.step (hb))
  replace I2 := hide (I2.out.below (hb))
  replace V3 := hide (V3.out.step (hb))
  replace I3 := hide (I3.out.below (hb))
  replace I4 := hide (I4.out.below (hb))
  replace V4 := hide (V4.out.step (hb))
  replace I5 := hide (I5.out.below (hb))
  replace V5 := hide (V5.out.step (hb))
  replace S5 := hide (S5.out.step (hb))
  clear hb
  have hV20 := V2.out.cell0
  have hV21 := V2.out.cell1
  have hV30 := V3.out.cell0
  have hV31 := V3.out.cell1
  go_wp2_with fail
  clear hV20 hV21
  clear hV30 hV31
  refine (igcd_any _ _ q5.num (q5.den : Int) _ I2.out I3.out (SzI.len SQ.out.num (by decide)) (SzI.len SQ.out.den (by decide))).mono ?_
  rintro e w2 ⟨v, rfl, kx, hb⟩
  rw [gcd_one] at kx
  replace HB := hide (HB.out.trans ((hb).mono HB.out.size))
  replace I1 := hide (I1.out.below (hb))
  replace V1 := hide (V1.out.step (hb))
  replace V2 := hide (V2.out.step (hb))
  replace I2 := hide (I2.out.below (hb))
  replace V3 := hide (V3.out.step (hb))
  replace I3 := hide (I3.out.below (hb))
  replace I4 := hide (I4.out.below (hb))
  replace V4 := hide (V4.out.step (hb))
  replace I5 := hide (I5.out.below (hb))
  replace V5 := hide (V5.out.step (hb))
  replace S5 := hide (S5.out.step (hb))
  have T1 := hide (kx)
  clear hb kx
  go_wp2_with fail
  refine (iof_any 1 _ (by decide) (by decide)).mono ?_
  rintro e w3 ⟨v, rfl, kx, hb⟩
  replace HB := hide (HB.out.trans ((hb).mono HB.out.size))
  replace I1 := hide (I1.out.below (hb))
  replace V1 := hide (V1.out.step (hb))
  replace V2 := hide (V2.out.step (hb))
  replace I2 := hide (I2.out.below (hb))
  replace V3 := hide (V3.out.step (hb))
  replace I3 := hide (I3.out.below (hb))
  replace I4 := hide (I4.out.below (hb))
  replace V4 := hide (V4.out.step (hb))
  replace I5 := hide (I5.out.below (hb))
  replace V5 := hide (V5.out.step (hb))
  replace S5 := hide (S5.out.step (hb))
  replace T1 := hide (T1.out.below (hb))
  have T2 := hide (kx)
  clear hb kx
  go_wp2_with fail
  refine (icmp_any _ _ 1 1 _ T1.out T2.out).mono ?_
  rintro e w4 ⟨he, hb⟩
  rw [show cmpZ 1 1 = 0 from by decide] at he
  subst he
  replace HB := hide (HB.out.trans ((hb).mono HB.out.size))
  replace I1 := hide (I1.out.below (hb))
  replace V1 := hide (V1.out.step (hb))
  replace V2 := hide (V2.out.step (hb))
  replace I2 := hide (I2.out.below (hb))
  replace V3 := hide (V3.out.step (hb))
  replace I3 := hide (I3.out.below (hb))
  replace I4 := hide (I4.out.below (hb))
  replace V4 := hide (V4.out.step (hb))
  replace I5 := hide (I5.out.below (hb))
  replace V5 := hide (V5.out.step (hb))
  replace S5 := hide (S5.out.step (hb))
  replace T1 := hide (T1.out.below (hb))
  replace T2 := hide (T2.out.below (hb))
  clear hb
  clear T1
  clear T2
  have hV10 := V1.out.cell0
  have hV11 := V1.out.cell1
  have hV12 := V1.out.cell2
  have hV13 := V1.out.cell3
  have hV40 := V4.out.cell0
  have hV41 := V4.out.cell1
  have hV42 := V4.out.cell2
  have hV43 := V4.out.cell3
  go_wp2_with fail
  clear hV10 hV11 hV12 hV13
  clear hV40 hV41 hV42 hV43
  refine (same_any _ _ q5 q5 _ I1.out I4.out).mono ?_
  rintro e w5 ⟨he, hb⟩
  rw [show decide (q5 = q5) = true from by simp] at he
  subst he
  replace HB := hide (HB.out.trans ((hb).mono HB.out.size))
  replace I1 := hide (I1.out.below (hb))
  replace V1 := hide (V1.out.step (hb))
  replace V2 := hide (V2.out.step (hb))
  replace I2 := hide (I2.out.below (hb))
  replace V3 := hide (V3.out.step (hb))
  replace I3 := hide (I3.out.below (hb))
  replace I4 := hide (I4.out.below (hb))
  replace V4 := hide (V4.out.step (hb))
  replace I5 := hide (I5.out.below (hb))
  replace V5 := hide (V5.out.step (hb))
  replace S5 := hide (S5.out.step (hb))
  clear hb
  have hV10 := V1.out.cell0
  have hV11 := V1.out.cell1
  have hV12 := V1.out.cell2
  have hV13 := V1.out.cell3
  have hV50 := V5.out.cell0
  have hV51 := V5.out.cell1
  have hV52 := V5.out.cell2
  have hV53 := V5.out.cell3
  have hS50 := S5.out.cell0
  have hS51 := S5.out.cell1
  go_wp2_with fail
  clear hV10 hV11 hV12 hV13
  clear hV50 hV51 hV52 hV53
  clear hS50 hS51
  refine (same_any _ _ q5 q5 _ I1.out I5.out).mono ?_
  rintro e w6 ⟨he, hb⟩
  rw [show decide (q5 = q5) = true from by simp] at he
  subst he
  replace HB := hide (HB.out.trans ((hb).mono HB.out.size))
  replace I1 := hide (I1.out.below (hb))
  replace V1 := hide (V1.out.step (hb))
  replace V2 := hide (V2.out.step (hb))
  replace I2 := hide (I2.out.below (hb))
  replace V3 := hide (V3.out.step (hb))
  replace I3 := hide (I3.out.below (hb))
  replace I4 := hide (I4.out.below (hb))
  replace V4 := hide (V4.out.step (hb))
  replace I5 := hide (I5.out.below (hb))
  replace V5 := hide (V5.out.step (hb))
  replace S5 := hide (S5.out.step (hb))
  clear hb
  clear V4
  clear I4
  clear V5
  clear I5
  clear S5
  go_upto_region 12 with fail
  have SK : Hid (SzI 2 k) := hide (SzI.wordB HK.out.1 HK.out.2)
  by_cases hk : k = 0
  · have KZ := hide hk
    clear hk
    go_cut [15, 12] from 18 (fun pt0 pe0 wx => ∃ g6 s6 m6 n6 c6 t6 o6 p6 d6, pt0 = .pointer (some ⟨g6, 0, none⟩) ∧ w6.heap.size ≤ g6 ∧ Box4 wx g6 (.bool s6) (.slice m6 n6 c6) (.bool t6) (.slice o6 p6 d6) ∧ RatAt wx (.agg #[.bool s6, .slice m6 n6 c6, .bool t6, .slice o6 p6 d6]) 0 ∧ pe0 = .int .i64 2 ∧ Below w6.heap.size w6 wx)
    case first =>
      refine wp_facts (fun L T wq => Below w6.heap.size w6 wq ∧ T 9 = .pointer (some ⟨g2, 0, none⟩) ∧ T 10 = .pointer (some ⟨g3, 0, none⟩) ∧ T 1 = .int .i64 k ∧ (L 0 = true → T 83 = .agg #[.bool s2, .slice m2 n2 c2]) ∧ (L 1 = true → T 84 = .int .i64 k) ∧ (L 4 = true → T 87 = .agg #[.bool s3, .slice m3 n3 c3]) ∧ (L 5 = true → T 88 = .int .i64 k) ∧ (L 2 = true → IntAt wq (T 85) k) ∧ (L 3 = true → IntAt wq (T 86) (q5.num * k)) ∧ (L 6 = true → IntAt wq (T 89) k) ∧ (L 7 = true → IntAt wq (T 90) ((q5.den : Int) * k)) ∧ (L 8 = true → ∃ v0 v1 : Value, T 91 = .tuple #[v0, v1] ∧ RatAt wq (v0) 0 ∧ v1 = .int .i64 2) ∧ (L 9 = true → ∃ v0 v1 : Value, T 82 = .tuple #[v0, v1] ∧ RatAt wq (v0) 0 ∧ v1 = .int .i64 2) ∧ (L 10 = true → RatAt wq (T 92) 0) ∧ (L 11 = true → T 93 = .int .i64 2) ∧ (L 14 = true → T 12 = .int .i64 2) ∧ (L 12 = true → PS w6.heap.size wq (T 15)) ∧ (L 12 = true → L 13 = false → PB w6.heap.size wq 27 (T 15) [.bool false, .slice none 0 0, .bool false, .slice none 0 0]) ∧ (L 13 = true → PV w6.heap.size wq 27 (T 15) (T 92))) 128 [12, 15, 82, 83, 84, 85, 86, 87, 88, 89, 90, 91, 92, 93] [0, 1, 2, 3, 4, 5, 6, 7, 8, 9, 10, 11, 12, 13, 14] (by kernel_rfl) (by kernel_rfl) (by kernel_rfl) (by kernel_rfl) ?_ ?_ ?_
      · exact ⟨(Below.refl w6.heap.size w6).drew, rfl, rfl, rfl, no_yet, no_yet, no_yet, no_yet, no_yet, no_yet, no_yet, no_yet, no_yet, no_yet, no_yet, no_yet, no_yet, no_yet, no_yet, no_yet⟩
      · intro i hi
        match i, hi with
        | 0, _ =>
          refine StepAt.of (need := []) (later := []) (k := 6) (d := some 83) rfl rfl (by kernel_rfl) (by kernel_rfl) ?_
          intro L T wq ev a he hL hN hM hJ next hnext
          have e9 := (he.tmp 9).trans hJ.2.1
          have hcl0 := ((V2.out).step hJ.1).cell0
          have hcl1 := ((V2.out).step hJ.1).cell1
          go_simp
          exact hnext _ _ ⟨hJ.1, hJ.2.1, hJ.2.2.1, hJ.2.2.2.1, fun _ => rfl, hJ.2.2.2.2.2.1, hJ.2.2.2.2.2.2.1, hJ.2.2.2.2.2.2.2.1, hJ.2.2.2.2.2.2.2.2.1, hJ.2.2.2.2.2.2.2.2.2.1, hJ.2.2.2.2.2.2.2.2.2.2.1, hJ.2.2.2.2.2.2.2.2.2.2.2.1, hJ.2.2.2.2.2.2.2.2.2.2.2.2.1, hJ.2.2.2.2.2.2.2.2.2.2.2.2.2.1, hJ.2.2.2.2.2.2.2.2.2.2.2.2.2.2.1, hJ.2.2.2.2.2.2.2.2.2.2.2.2.2.2.2.1, hJ.2.2.2.2.2.2.2.2.2.2.2.2.2.2.2.2.1, hJ.2.2.2.2.2.2.2.2.2.2.2.2.2.2.2.2.2.1, hJ.2.2.2.2.2.2.2.2.2.2.2.2.2.2.2.2.2.2.1, hJ.2.2.2.2.2.2.2.2.2.2.2.2.2.2.2.2.2.2.2⟩
        | 1, _ =>
          refine StepAt.of (need := []) (later := []) (k := 6) (d := some 84) rfl rfl (by kernel_rfl) (by kernel_rfl) ?_
          intro L T wq ev a he hL hN hM hJ next hnext
          have e1 := (he.tmp 1).trans hJ.2.2.2.1
          go_simp
          exact hnext _ _ ⟨hJ.1, hJ.2.1, hJ.2.2.1, hJ.2.2.2.1, hJ.2.2.2.2.1, fun _ => rfl, hJ.2.2.2.2.2.2.1, hJ.2.2.2.2.2.2.2.1, hJ.2.2.2.2.2.2.2.2.1, hJ.2.2.2.2.2.2.2.2.2.1, hJ.2.2.2.2.2.2.2.2.2.2.1, hJ.2.2.2.2.2.2.2.2.2.2.2.1, hJ.2.2.2.2.2.2.2.2.2.2.2.2.1, hJ.2.2.2.2.2.2.2.2.2.2.2.2.2.1, hJ.2.2.2.2.2.2.2.2.2.2.2.2.2.2.1, hJ.2.2.2.2.2.2.2.2.2.2.2.2.2.2.2.1, hJ.2.2.2.2.2.2.2.2.2.2.2.2.2.2.2.2.1, hJ.2.2.2.2.2.2.2.2.2.2.2.2.2.2.2.2.2.1, hJ.2.2.2.2.2.2.2.2.2.2.2.2.2.2.2.2.2.2.1, hJ.2.2.2.2.2.2.2.2.2.2.2.2.2.2.2.2.2.2.2⟩
        | 2, _ =>
          refine StepAt.of (need := [1]) (later := []) (k := 6) (d := some 85) rfl rfl (by kernel_rfl) (by kernel_rfl) ?_
          intro L T wq ev a he hL hN hM hJ next hnext
          have e84 := (he.tmp 84).trans (hJ.2.2.2.2.2.1 (hN.1))
          have ef := he.func
          go_simp
          refine (iof_any k _ HK.out.1 HK.out.2).mono ?_
          rintro e wq' ⟨v, rfl, i, hb⟩
          exact hnext _ _ ⟨hJ.1.trans ((hb).mono hJ.1.size), hJ.2.1, hJ.2.2.1, hJ.2.2.2.1, hJ.2.2.2.2.1, hJ.2.2.2.2.2.1, hJ.2.2.2.2.2.2.1, hJ.2.2.2.2.2.2.2.1, fun _ => i, fun h => (hJ.2.2.2.2.2.2.2.2.2.1 h).below (hb), fun h => (hJ.2.2.2.2.2.2.2.2.2.2.1 h).below (hb), fun h => (hJ.2.2.2.2.2.2.2.2.2.2.2.1 h).below (hb), fun h => let ⟨v0, v1, e, y0, y1⟩ := hJ.2.2.2.2.2.2.2.2.2.2.2.2.1 h; ⟨v0, v1, e, y0.below (hb), y1⟩, fun h => let ⟨v0, v1, e, y0, y1⟩ := hJ.2.2.2.2.2.2.2.2.2.2.2.2.2.1 h; ⟨v0, v1, e, y0.below (hb), y1⟩, fun h => (hJ.2.2.2.2.2.2.2.2.2.2.2.2.2.2.1 h).below (hb), hJ.2.2.2.2.2.2.2.2.2.2.2.2.2.2.2.1, hJ.2.2.2.2.2.2.2.2.2.2.2.2.2.2.2.2.1, fun h => (hJ.2.2.2.2.2.2.2.2.2.2.2.2.2.2.2.2.2.1 h).step (hb), fun h h' => (hJ.2.2.2.2.2.2.2.2.2.2.2.2.2.2.2.2.2.2.1 h h').step (hb), fun h => (hJ.2.2.2.2.2.2.2.2.2.2.2.2.2.2.2.2.2.2.2 h).step (hb)⟩
        | 3, _ =>
          refine StepAt.of (need := [0, 2]) (later := []) (k := 6) (d := some 86) rfl rfl (by kernel_rfl) (by kernel_rfl) ?_
          intro L T wq ev a he hL hN hM hJ next hnext
          have e83 := (he.tmp 83).trans (hJ.2.2.2.2.1 (hN.1))
          have e85 := he.tmp 85
          have ef := he.func
          go_simp
          refine (imul_any _ _ q5.num k _ (I2.out.below hJ.1) (hJ.2.2.2.2.2.2.2.2.1 (hN.2.1)) (SzI.len SQ.out.num (by decide)) (SzI.len SK.out (by decide))).mono ?_
          rintro e wq' ⟨v, rfl, i, hb⟩
          exact hnext _ _ ⟨hJ.1.trans ((hb).mono hJ.1.size), hJ.2.1, hJ.2.2.1, hJ.2.2.2.1, hJ.2.2.2.2.1, hJ.2.2.2.2.2.1, hJ.2.2.2.2.2.2.1, hJ.2.2.2.2.2.2.2.1, fun h => (hJ.2.2.2.2.2.2.2.2.1 h).below (hb), fun _ => i, fun h => (hJ.2.2.2.2.2.2.2.2.2.2.1 h).below (hb), fun h => (hJ.2.2.2.2.2.2.2.2.2.2.2.1 h).below (hb), fun h => let ⟨v0, v1, e, y0, y1⟩ := hJ.2.2.2.2.2.2.2.2.2.2.2.2.1 h; ⟨v0, v1, e, y0.below (hb), y1⟩, fun h => let ⟨v0, v1, e, y0, y1⟩ := hJ.2.2.2.2.2.2.2.2.2.2.2.2.2.1 h; ⟨v0, v1, e, y0.below (hb), y1⟩, fun h => (hJ.2.2.2.2.2.2.2.2.2.2.2.2.2.2.1 h).below (hb), hJ.2.2.2.2.2.2.2.2.2.2.2.2.2.2.2.1, hJ.2.2.2.2.2.2.2.2.2.2.2.2.2.2.2.2.1, fun h => (hJ.2.2.2.2.2.2.2.2.2.2.2.2.2.2.2.2.2.1 h).step (hb), fun h h' => (hJ.2.2.2.2.2.2.2.2.2.2.2.2.2.2.2.2.2.2.1 h h').step (hb), fun h => (hJ.2.2.2.2.2.2.2.2.2.2.2.2.2.2.2.2.2.2.2 h).step (hb)⟩
        | 4, _ =>
          refine StepAt.of (need := []) (later := []) (k := 6) (d := some 87) rfl rfl (by kernel_rfl) (by kernel_rfl) ?_
          intro L T wq ev a he hL hN hM hJ next hnext
          have e10 := (he.tmp 10).trans hJ.2.2.1
          have hcl0 := ((V3.out).step hJ.1).cell0
          have hcl1 := ((V3.out).step hJ.1).cell1
          go_simp
          exact hnext _ _ ⟨hJ.1, hJ.2.1, hJ.2.2.1, hJ.2.2.2.1, hJ.2.2.2.2.1, hJ.2.2.2.2.2.1, fun _ => rfl, hJ.2.2.2.2.2.2.2.1, hJ.2.2.2.2.2.2.2.2.1, hJ.2.2.2.2.2.2.2.2.2.1, hJ.2.2.2.2.2.2.2.2.2.2.1, hJ.2.2.2.2.2.2.2.2.2.2.2.1, hJ.2.2.2.2.2.2.2.2.2.2.2.2.1, hJ.2.2.2.2.2.2.2.2.2.2.2.2.2.1, hJ.2.2.2.2.2.2.2.2.2.2.2.2.2.2.1, hJ.2.2.2.2.2.2.2.2.2.2.2.2.2.2.2.1, hJ.2.2.2.2.2.2.2.2.2.2.2.2.2.2.2.2.1, hJ.2.2.2.2.2.2.2.2.2.2.2.2.2.2.2.2.2.1, hJ.2.2.2.2.2.2.2.2.2.2.2.2.2.2.2.2.2.2.1, hJ.2.2.2.2.2.2.2.2.2.2.2.2.2.2.2.2.2.2.2⟩
        | 5, _ =>
          refine StepAt.of (need := []) (later := []) (k := 6) (d := some 88) rfl rfl (by kernel_rfl) (by kernel_rfl) ?_
          intro L T wq ev a he hL hN hM hJ next hnext
          have e1 := (he.tmp 1).trans hJ.2.2.2.1
          go_simp
          exact hnext _ _ ⟨hJ.1, hJ.2.1, hJ.2.2.1, hJ.2.2.2.1, hJ.2.2.2.2.1, hJ.2.2.2.2.2.1, hJ.2.2.2.2.2.2.1, fun _ => rfl, hJ.2.2.2.2.2.2.2.2.1, hJ.2.2.2.2.2.2.2.2.2.1, hJ.2.2.2.2.2.2.2.2.2.2.1, hJ.2.2.2.2.2.2.2.2.2.2.2.1, hJ.2.2.2.2.2.2.2.2.2.2.2.2.1, hJ.2.2.2.2.2.2.2.2.2.2.2.2.2.1, hJ.2.2.2.2.2.2.2.2.2.2.2.2.2.2.1, hJ.2.2.2.2.2.2.2.2.2.2.2.2.2.2.2.1, hJ.2.2.2.2.2.2.2.2.2.2.2.2.2.2.2.2.1, hJ.2.2.2.2.2.2.2.2.2.2.2.2.2.2.2.2.2.1, hJ.2.2.2.2.2.2.2.2.2.2.2.2.2.2.2.2.2.2.1, hJ.2.2.2.2.2.2.2.2.2.2.2.2.2.2.2.2.2.2.2⟩
        | 6, _ =>
          refine StepAt.of (need := [5]) (later := []) (k := 6) (d := some 89) rfl rfl (by kernel_rfl) (by kernel_rfl) ?_
          intro L T wq ev a he hL hN hM hJ next hnext
          have e88 := (he.tmp 88).trans (hJ.2.2.2.2.2.2.2.1 (hN.1))
          have ef := he.func
          go_simp
          refine (iof_any k _ HK.out.1 HK.out.2).mono ?_
          rintro e wq' ⟨v, rfl, i, hb⟩
          exact hnext _ _ ⟨hJ.1.trans ((hb).mono hJ.1.size), hJ.2.1, hJ.2.2.1, hJ.2.2.2.1, hJ.2.2.2.2.1, hJ.2.2.2.2.2.1, hJ.2.2.2.2.2.2.1, hJ.2.2.2.2.2.2.2.1, fun h => (hJ.2.2.2.2.2.2.2.2.1 h).below (hb), fun h => (hJ.2.2.2.2.2.2.2.2.2.1 h).below (hb), fun _ => i, fun h => (hJ.2.2.2.2.2.2.2.2.2.2.2.1 h).below (hb), fun h => let ⟨v0, v1, e, y0, y1⟩ := hJ.2.2.2.2.2.2.2.2.2.2.2.2.1 h; ⟨v0, v1, e, y0.below (hb), y1⟩, fun h => let ⟨v0, v1, e, y0, y1⟩ := hJ.2.2.2.2.2.2.2.2.2.2.2.2.2.1 h; ⟨v0, v1, e, y0.below (hb), y1⟩, fun h => (hJ.2.2.2.2.2.2.2.2.2.2.2.2.2.2.1 h).below (hb), hJ.2.2.2.2.2.2.2.2.2.2.2.2.2.2.2.1, hJ.2.2.2.2.2.2.2.2.2.2.2.2.2.2.2.2.1, fun h => (hJ.2.2.2.2.2.2.2.2.2.2.2.2.2.2.2.2.2.1 h).step (hb), fun h h' => (hJ.2.2.2.2.2.2.2.2.2.2.2.2.2.2.2.2.2.2.1 h h').step (hb), fun h => (hJ.2.2.2.2.2.2.2.2.2.2.2.2.2.2.2.2.2.2.2 h).step (hb)⟩
        | 7, _ =>
          refine StepAt.of (need := [4, 6]) (later := []) (k := 6) (d := some 90) rfl rfl (by kernel_rfl) (by kernel_rfl) ?_
          intro L T wq ev a he hL hN hM hJ next hnext
          have e87 := (he.tmp 87).trans (hJ.2.2.2.2.2.2.1 (hN.1))
          have e89 := he.tmp 89
          have ef := he.func
          go_simp
          refine (imul_any _ _ (q5.den : Int) k _ (I3.out.below hJ.1) (hJ.2.2.2.2.2.2.2.2.2.2.1 (hN.2.1)) (SzI.len SQ.out.den (by decide)) (SzI.len SK.out (by decide))).mono ?_
          rintro e wq' ⟨v, rfl, i, hb⟩
          exact hnext _ _ ⟨hJ.1.trans ((hb).mono hJ.1.size), hJ.2.1, hJ.2.2.1, hJ.2.2.2.1, hJ.2.2.2.2.1, hJ.2.2.2.2.2.1, hJ.2.2.2.2.2.2.1, hJ.2.2.2.2.2.2.2.1, fun h => (hJ.2.2.2.2.2.2.2.2.1 h).below (hb), fun h => (hJ.2.2.2.2.2.2.2.2.2.1 h).below (hb), fun h => (hJ.2.2.2.2.2.2.2.2.2.2.1 h).below (hb), fun _ => i, fun h => let ⟨v0, v1, e, y0, y1⟩ := hJ.2.2.2.2.2.2.2.2.2.2.2.2.1 h; ⟨v0, v1, e, y0.below (hb), y1⟩, fun h => let ⟨v0, v1, e, y0, y1⟩ := hJ.2.2.2.2.2.2.2.2.2.2.2.2.2.1 h; ⟨v0, v1, e, y0.below (hb), y1⟩, fun h => (hJ.2.2.2.2.2.2.2.2.2.2.2.2.2.2.1 h).below (hb), hJ.2.2.2.2.2.2.2.2.2.2.2.2.2.2.2.1, hJ.2.2.2.2.2.2.2.2.2.2.2.2.2.2.2.2.1, fun h => (hJ.2.2.2.2.2.2.2.2.2.2.2.2.2.2.2.2.2.1 h).step (hb), fun h h' => (hJ.2.2.2.2.2.2.2.2.2.2.2.2.2.2.2.2.2.2.1 h h').step (hb), fun h => (hJ.2.2.2.2.2.2.2.2.2.2.2.2.2.2.2.2.2.2.2 h).step (hb)⟩
        | 8, _ =>
          refine StepAt.of (need := [3, 7]) (later := []) (k := 6) (d := some 91) rfl rfl (by kernel_rfl) (by kernel_rfl) ?_
          intro L T wq ev a he hL hN hM hJ next hnext
          have e86 := he.tmp 86
          have e90 := he.tmp 90
          have ef := he.func
          go_simp
          refine (rtmake_zero _ _ (q5.num * k) ((q5.den : Int) * k) _ (hJ.2.2.2.2.2.2.2.2.2.1 (hN.1)) (hJ.2.2.2.2.2.2.2.2.2.2.2.1 (hN.2.1)) (by rw [KZ.out, Int.mul_zero])).mono ?_
          rintro e wq' ⟨v, rfl, i1, hb⟩
          exact hnext _ _ ⟨hJ.1.trans ((hb).mono hJ.1.size), hJ.2.1, hJ.2.2.1, hJ.2.2.2.1, hJ.2.2.2.2.1, hJ.2.2.2.2.2.1, hJ.2.2.2.2.2.2.1, hJ.2.2.2.2.2.2.2.1, fun h => (hJ.2.2.2.2.2.2.2.2.1 h).below (hb), fun h => (hJ.2.2.2.2.2.2.2.2.2.1 h).below (hb), fun h => (hJ.2.2.2.2.2.2.2.2.2.2.1 h).below (hb), fun h => (hJ.2.2.2.2.2.2.2.2.2.2.2.1 h).below (hb), fun _ => ⟨_, _, rfl, i1, rfl⟩, fun h => let ⟨v0, v1, e, y0, y1⟩ := hJ.2.2.2.2.2.2.2.2.2.2.2.2.2.1 h; ⟨v0, v1, e, y0.below (hb), y1⟩, fun h => (hJ.2.2.2.2.2.2.2.2.2.2.2.2.2.2.1 h).below (hb), hJ.2.2.2.2.2.2.2.2.2.2.2.2.2.2.2.1, hJ.2.2.2.2.2.2.2.2.2.2.2.2.2.2.2.2.1, fun h => (hJ.2.2.2.2.2.2.2.2.2.2.2.2.2.2.2.2.2.1 h).step (hb), fun h h' => (hJ.2.2.2.2.2.2.2.2.2.2.2.2.2.2.2.2.2.2.1 h h').step (hb), fun h => (hJ.2.2.2.2.2.2.2.2.2.2.2.2.2.2.2.2.2.2.2 h).step (hb)⟩
        | 9, _ =>
          refine StepAt.of (need := [8]) (later := []) (k := 6) (d := some 82) rfl rfl (by kernel_rfl) (by kernel_rfl) ?_
          intro L T wq ev a he hL hN hM hJ next hnext
          have e91 := he.tmp 91
          go_simp
          exact hnext _ _ ⟨hJ.1, hJ.2.1, hJ.2.2.1, hJ.2.2.2.1, hJ.2.2.2.2.1, hJ.2.2.2.2.2.1, hJ.2.2.2.2.2.2.1, hJ.2.2.2.2.2.2.2.1, hJ.2.2.2.2.2.2.2.2.1, hJ.2.2.2.2.2.2.2.2.2.1, hJ.2.2.2.2.2.2.2.2.2.2.1, hJ.2.2.2.2.2.2.2.2.2.2.2.1, hJ.2.2.2.2.2.2.2.2.2.2.2.2.1, fun _ => hJ.2.2.2.2.2.2.2.2.2.2.2.2.1 (hN.1), hJ.2.2.2.2.2.2.2.2.2.2.2.2.2.2.1, hJ.2.2.2.2.2.2.2.2.2.2.2.2.2.2.2.1, hJ.2.2.2.2.2.2.2.2.2.2.2.2.2.2.2.2.1, hJ.2.2.2.2.2.2.2.2.2.2.2.2.2.2.2.2.2.1, hJ.2.2.2.2.2.2.2.2.2.2.2.2.2.2.2.2.2.2.1, hJ.2.2.2.2.2.2.2.2.2.2.2.2.2.2.2.2.2.2.2⟩
        | 10, _ =>
          refine StepAt.of (need := [9]) (later := [13]) (k := 6) (d := some 92) rfl rfl (by kernel_rfl) (by kernel_rfl) ?_
          intro L T wq ev a he hL hN hM hJ next hnext
          obtain ⟨v0, v1, hv, y0, y1⟩ := hJ.2.2.2.2.2.2.2.2.2.2.2.2.2.1 (hN.1)
          have e82 := (he.tmp 82).trans hv
          go_simp
          exact hnext _ _ ⟨hJ.1, hJ.2.1, hJ.2.2.1, hJ.2.2.2.1, hJ.2.2.2.2.1, hJ.2.2.2.2.2.1, hJ.2.2.2.2.2.2.1, hJ.2.2.2.2.2.2.2.1, hJ.2.2.2.2.2.2.2.2.1, hJ.2.2.2.2.2.2.2.2.2.1, hJ.2.2.2.2.2.2.2.2.2.2.1, hJ.2.2.2.2.2.2.2.2.2.2.2.1, hJ.2.2.2.2.2.2.2.2.2.2.2.2.1, hJ.2.2.2.2.2.2.2.2.2.2.2.2.2.1, fun _ => y0, hJ.2.2.2.2.2.2.2.2.2.2.2.2.2.2.2.1, hJ.2.2.2.2.2.2.2.2.2.2.2.2.2.2.2.2.1, hJ.2.2.2.2.2.2.2.2.2.2.2.2.2.2.2.2.2.1, hJ.2.2.2.2.2.2.2.2.2.2.2.2.2.2.2.2.2.2.1, fun h => clash (hM.1) h⟩
        | 11, _ =>
          refine StepAt.of (need := [9]) (later := []) (k := 6) (d := some 93) rfl rfl (by kernel_rfl) (by kernel_rfl) ?_
          intro L T wq ev a he hL hN hM hJ next hnext
          obtain ⟨v0, v1, hv, y0, y1⟩ := hJ.2.2.2.2.2.2.2.2.2.2.2.2.2.1 (hN.1)
          have e82 := (he.tmp 82).trans hv
          go_simp
          exact hnext _ _ ⟨hJ.1, hJ.2.1, hJ.2.2.1, hJ.2.2.2.1, hJ.2.2.2.2.1, hJ.2.2.2.2.2.1, hJ.2.2.2.2.2.2.1, hJ.2.2.2.2.2.2.2.1, hJ.2.2.2.2.2.2.2.2.1, hJ.2.2.2.2.2.2.2.2.2.1, hJ.2.2.2.2.2.2.2.2.2.2.1, hJ.2.2.2.2.2.2.2.2.2.2.2.1, hJ.2.2.2.2.2.2.2.2.2.2.2.2.1, hJ.2.2.2.2.2.2.2.2.2.2.2.2.2.1, hJ.2.2.2.2.2.2.2.2.2.2.2.2.2.2.1, fun _ => (by first | exact y1 | exact rfl), hJ.2.2.2.2.2.2.2.2.2.2.2.2.2.2.2.2.1, hJ.2.2.2.2.2.2.2.2.2.2.2.2.2.2.2.2.2.1, hJ.2.2.2.2.2.2.2.2.2.2.2.2.2.2.2.2.2.2.1, hJ.2.2.2.2.2.2.2.2.2.2.2.2.2.2.2.2.2.2.2⟩
        | 12, _ =>
          refine StepAt.of (need := []) (later := [13]) (k := 6) (d := some 15) rfl rfl (by kernel_rfl) (by kernel_rfl) ?_
          intro L T wq ev a he hL hN hM hJ next hnext
          go_simp
          have hb := below_alloc wq (.cells #[.bool false, .slice none 0 0, .bool false, .slice none 0 0] 27)
          exact hnext _ _ ⟨hJ.1.trans ((hb).mono hJ.1.size), hJ.2.1, hJ.2.2.1, hJ.2.2.2.1, hJ.2.2.2.2.1, hJ.2.2.2.2.2.1, hJ.2.2.2.2.2.2.1, hJ.2.2.2.2.2.2.2.1, fun h => (hJ.2.2.2.2.2.2.2.2.1 h).below (hb), fun h => (hJ.2.2.2.2.2.2.2.2.2.1 h).below (hb), fun h => (hJ.2.2.2.2.2.2.2.2.2.2.1 h).below (hb), fun h => (hJ.2.2.2.2.2.2.2.2.2.2.2.1 h).below (hb), fun h => let ⟨v0, v1, e, y0, y1⟩ := hJ.2.2.2.2.2.2.2.2.2.2.2.2.1 h; ⟨v0, v1, e, y0.below (hb), y1⟩, fun h => let ⟨v0, v1, e, y0, y1⟩ := hJ.2.2.2.2.2.2.2.2.2.2.2.2.2.1 h; ⟨v0, v1, e, y0.below (hb), y1⟩, fun h => (hJ.2.2.2.2.2.2.2.2.2.2.2.2.2.2.1 h).below (hb), hJ.2.2.2.2.2.2.2.2.2.2.2.2.2.2.2.1, hJ.2.2.2.2.2.2.2.2.2.2.2.2.2.2.2.2.1, fun _ => PS.new hJ.1.size _, fun _ _ => PB.new hJ.1.size _ [.bool false, .slice none 0 0, .bool false, .slice none 0 0], fun h => clash (hM.1) h⟩
        | 13, _ =>
          refine StepAt.of (need := [12, 10]) (later := []) (k := 6) (d := none) rfl rfl (by kernel_rfl) (by kernel_rfl) ?_
          intro L T wq ev a he hL hN hM hJ next hnext
          obtain ⟨g, hg, hge, hbx⟩ := hJ.2.2.2.2.2.2.2.2.2.2.2.2.2.2.2.2.2.2.1 (hN.1) hL
          obtain ⟨sv, mv, nv, cv, sv', mv', nv', cv', hv, iv⟩ := (hJ.2.2.2.2.2.2.2.2.2.2.2.2.2.2.1 (hN.2.1)).cells
          have e15 := (he.tmp 15).trans hg
          have e92 := (he.tmp 92).trans hv
          have hc0 := hbx.cell 0 rfl
          have hf0 := hbx.free 0
          have hc1 := hbx.cell 1 rfl
          have hf1 := hbx.free 1
          have hc2 := hbx.cell 2 rfl
          have hf2 := hbx.free 2
          have hc3 := hbx.cell 3 rfl
          have hf3 := hbx.free 3
          have hk := keeps_all hbx (by intro c hc z e; subst e; simp at hc) [.bool sv, .slice mv nv cv, .bool sv', .slice mv' nv' cv'] rfl
          go_simp
          exact hnext undef _ ⟨below_all hge [.bool sv, .slice mv nv cv, .bool sv', .slice mv' nv' cv'] 0 _ hJ.1, hJ.2.1, hJ.2.2.1, hJ.2.2.2.1, hJ.2.2.2.2.1, hJ.2.2.2.2.2.1, hJ.2.2.2.2.2.2.1, hJ.2.2.2.2.2.2.2.1, fun h => (hJ.2.2.2.2.2.2.2.2.1 h).keep hk, fun h => (hJ.2.2.2.2.2.2.2.2.2.1 h).keep hk, fun h => (hJ.2.2.2.2.2.2.2.2.2.2.1 h).keep hk, fun h => (hJ.2.2.2.2.2.2.2.2.2.2.2.1 h).keep hk, fun h => let ⟨v0, v1, e, y0, y1⟩ := hJ.2.2.2.2.2.2.2.2.2.2.2.2.1 h; ⟨v0, v1, e, y0.keep hk, y1⟩, fun h => let ⟨v0, v1, e, y0, y1⟩ := hJ.2.2.2.2.2.2.2.2.2.2.2.2.2.1 h; ⟨v0, v1, e, y0.keep hk, y1⟩, fun h => (hJ.2.2.2.2.2.2.2.2.2.2.2.2.2.2.1 h).keep hk, hJ.2.2.2.2.2.2.2.2.2.2.2.2.2.2.2.1, hJ.2.2.2.2.2.2.2.2.2.2.2.2.2.2.2.2.1, fun h => (hJ.2.2.2.2.2.2.2.2.2.2.2.2.2.2.2.2.2.1 h).put [.bool sv, .slice mv nv cv, .bool sv', .slice mv' nv' cv'], fun _ h => no_more h, fun _ => PV.set' [.bool sv, .slice mv nv cv, .bool sv', .slice mv' nv' cv'] hg hv hbx hge rfl⟩
        | 14, _ =>
          refine StepAt.of (need := [11]) (later := []) (k := 6) (d := some 12) rfl rfl (by kernel_rfl) (by kernel_rfl) ?_
          intro L T wq ev a he hL hN hM hJ next hnext
          have e93 := he.tmp 93
          go_simp
          exact hnext _ _ ⟨hJ.1, hJ.2.1, hJ.2.2.1, hJ.2.2.2.1, hJ.2.2.2.2.1, hJ.2.2.2.2.2.1, hJ.2.2.2.2.2.2.1, hJ.2.2.2.2.2.2.2.1, hJ.2.2.2.2.2.2.2.2.1, hJ.2.2.2.2.2.2.2.2.2.1, hJ.2.2.2.2.2.2.2.2.2.2.1, hJ.2.2.2.2.2.2.2.2.2.2.2.1, hJ.2.2.2.2.2.2.2.2.2.2.2.2.1, hJ.2.2.2.2.2.2.2.2.2.2.2.2.2.1, hJ.2.2.2.2.2.2.2.2.2.2.2.2.2.2.1, hJ.2.2.2.2.2.2.2.2.2.2.2.2.2.2.2.1, fun _ => hJ.2.2.2.2.2.2.2.2.2.2.2.2.2.2.2.1 (hN.1), hJ.2.2.2.2.2.2.2.2.2.2.2.2.2.2.2.2.2.1, hJ.2.2.2.2.2.2.2.2.2.2.2.2.2.2.2.2.2.2.1, hJ.2.2.2.2.2.2.2.2.2.2.2.2.2.2.2.2.2.2.2⟩
        | k + 15, hi => exact absurd hi (Nat.not_lt.2 (Nat.le_add_left 15 k))
      · intro L a wq hA hJ hs hd hf
        obtain ⟨g6, cs0, hp0, hge0, hv0, hb0⟩ := hJ.2.2.2.2.2.2.2.2.2.2.2.2.2.2.2.2.2.2.2 (hA.2.2.2.2.2.2.2.2.2.2.2.2.2.1)
        have i0 := hJ.2.2.2.2.2.2.2.2.2.2.2.2.2.2.1 (hA.2.2.2.2.2.2.2.2.2.2.1)
        obtain ⟨s6, m6, n6, c6, t6, o6, p6, d6, hq0, i0⟩ := i0.cells
        rw [hq0, Value.agg.injEq] at hv0
        have hl0 : cs0 = _ := congrArg Array.toList hv0.symm
        subst hl0
        refine (by assumption : ∀ a' w', Met _ a' w' → _) _ _ (Met.intro ((by assumption : ∀ a' w', _ → _) _ _ ?_))
        exact ⟨a.tmps.getD 12 undef, a.tmps.getD 15 undef, a.tmps.getD 18 undef, a.tmps.getD 19 undef, a.tmps.getD 20 undef, a.tmps.getD 21 undef, a.tmps.getD 22 undef, a.tmps.getD 23 undef, a.tmps.getD 24 undef, a.tmps.getD 25 undef, a.tmps.getD 26 undef, a.tmps.getD 27 undef, a.tmps.getD 28 undef, a.tmps.getD 29 undef, a.tmps.getD 30 undef, a.tmps.getD 31 undef, a.tmps.getD 32 undef, a.tmps.getD 33 undef, a.tmps.getD 34 undef, a.tmps.getD 35 undef, a.tmps.getD 36 undef, a.tmps.getD 37 undef, a.tmps.getD 38 undef, a.tmps.getD 39 undef, a.tmps.getD 40 undef, a.tmps.getD 41 undef, a.tmps.getD 42 undef, a.tmps.getD 43 undef, a.tmps.getD 44 undef, a.tmps.getD 45 undef, a.tmps.getD 46 undef, a.tmps.getD 47 undef, a.tmps.getD 48 undef, a.tmps.getD 49 undef, a.tmps.getD 50 undef, a.tmps.getD 51 undef, a.tmps.getD 52 undef, a.tmps.getD 53 undef, a.tmps.getD 54 undef, a.tmps.getD 55 undef, a.tmps.getD 56 undef, a.tmps.getD 57 undef, a.tmps.getD 58 undef, a.tmps.getD 59 undef, a.tmps.getD 60 undef, a.tmps.getD 61 undef, a.tmps.getD 62 undef, a.tmps.getD 63 undef, a.tmps.getD 64 undef, a.tmps.getD 65 undef, a.tmps.getD 66 undef, a.tmps.getD 67 undef, a.tmps.getD 68 undef, a.tmps.getD 69 undef, a.tmps.getD 70 undef, a.tmps.getD 71 undef, a.tmps.getD 72 undef, a.tmps.getD 73 undef, a.tmps.getD 74 undef, a.tmps.getD 75 undef, a.tmps.getD 76 undef, a.tmps.getD 77 undef, a.tmps.getD 78 undef, a.tmps.getD 79 undef, a.tmps.getD 80 undef, a.tmps.getD 81 undef, a.tmps.getD 82 undef, a.tmps.getD 83 undef, a.tmps.getD 84 undef, a.tmps.getD 85 undef, a.tmps.getD 86 undef, a.tmps.getD 87 undef, a.tmps.getD 88 undef, a.tmps.getD 89 undef, a.tmps.getD 90 undef, a.tmps.getD 91 undef, a.tmps.getD 92 undef, a.tmps.getD 93 undef, a.tmps.getD 94 undef, a.tmps.getD 95 undef, a.tmps.getD 96 undef, a.tmps.getD 97 undef, a.tmps.getD 98 undef, a.tmps.getD 99 undef, a.tmps.getD 100 undef, a.tmps.getD 101 undef, a.tmps.getD 102 undef, a.tmps.getD 103 undef, a.tmps.getD 104 undef, a.tmps.getD 105 undef, a.tmps.getD 106 undef, a.tmps.getD 107 undef, a.tmps.getD 108 undef, a.tmps.getD 109 undef, a.tmps.getD 110 undef, a.tmps.getD 111 undef, a.tmps.getD 112 undef, a.tmps.getD 113 undef, a.tmps.getD 114 undef, a.tmps.getD 115 undef, a.tmps.getD 116 undef, a.tmps.getD 117 undef, a.tmps.getD 118 undef, a.tmps.getD 119 undef, a.tmps.getD 120 undef, a.tmps.getD 121 undef, a.tmps.getD 122 undef, a.tmps.getD 123 undef, a.tmps.getD 124 undef, a.tmps.getD 125 undef, a.tmps.getD 126 undef, a.tmps.getD 127 undef, ⟨g6, s6, m6, n6, c6, t6, o6, p6, d6, hp0, hge0, hb0, i0, hJ.2.2.2.2.2.2.2.2.2.2.2.2.2.2.2.2.1 (hA.2.2.2.2.2.2.2.2.2.2.2.2.2.2.1), hJ.1⟩, act_eq _ _ [12, 15, 18, 19, 20, 21, 22, 23, 24, 25, 26, 27, 28, 29, 30, 31, 32, 33, 34, 35, 36, 37, 38, 39, 40, 41, 42, 43, 44, 45, 46, 47, 48, 49, 50, 51, 52, 53, 54, 55, 56, 57, 58, 59, 60, 61, 62, 63, 64, 65, 66, 67, 68, 69, 70, 71, 72, 73, 74, 75, 76, 77, 78, 79, 80, 81, 82, 83, 84, 85, 86, 87, 88, 89, 90, 91, 92, 93, 94, 95, 96, 97, 98, 99, 100, 101, 102, 103, 104, 105, 106, 107, 108, 109, 110, 111, 112, 113, 114, 115, 116, 117, 118, 119, 120, 121, 122, 123, 124, 125, 126, 127] hf (by kernel_rfl) (hs.trans (by kernel_rfl)) hd (by kernel_rfl)⟩
    case rest =>
    obtain ⟨g6, s6, m6, n6, c6, t6, o6, p6, d6, rfl, hge0, hbx0, hi0, rfl, hb⟩ := hcut
    replace HB := hide (HB.out.trans ((hb).mono HB.out.size))
    replace I1 := hide (I1.out.below (hb))
    replace V1 := hide (V1.out.step (hb))
    replace V2 := hide (V2.out.step (hb))
    replace I2 := hide (I2.out.below (hb))
    replace V3 := hide (V3.out.step (hb))
    replace I3 := hide (I3.out.below (hb))
    have V6 := hide hbx0
    have I6 := hide hi0
    clear hb hge0 hbx0 hi0
    generalize hwc : wc = wc12 at *
    clear hwc
    have hk0 : (k == 0) = true := by rw [KZ.out]; rfl
    have hk1 : (k != 0) = false := by rw [KZ.out]; rfl
    go_wp2_with fail
    clear hk0 hk1
    refine (rread_rat t _ LT.out).mono ?_
    rintro e y2 ⟨⟨v, q9, p9, b9, rfl, kx, hr⟩, hb⟩
    obtain ⟨s9, m9, n9, c9, t9, o9, p8, d9, rfl, ky⟩ := kx.cells
    have H9 := hide hr
    replace HB := hide (HB.out.trans ((hb).mono HB.out.size))
    replace I1 := hide (I1.out.below (hb))
    replace V1 := hide (V1.out.step (hb))
    replace V2 := hide (V2.out.step (hb))
    replace I2 := hide (I2.out.below (hb))
    replace V3 := hide (V3.out.step (hb))
    replace I3 := hide (I3.out.below (hb))
    replace V6 := hide (V6.out.step (hb))
    replace I6 := hide (I6.out.below (hb))
    have I9 := hide (ky)
    clear hb kx ky hr
    go_upto_region 16 with fail
    have V9 := Box4.new y2 (.bool s9) (.slice m9 n9 c9) (.bool t9) (.slice o9 p8 d9)
    replace V9 := V9.step (below_alloc _ (.cells #[.int .i64 ((p9 : Nat) : Int), .int .i64 ((b9 : Nat) : Int)] 30))
    replace V9 := hide V9
    have S9 := BoxS.new (y2.alloc (.cells #[.bool s9, .slice m9 n9 c9, .bool t9, .slice o9 p8 d9] 27)) (.int .i64 ((p9 : Nat) : Int)) (.int .i64 ((b9 : Nat) : Int))
    simp only [World.size_alloc] at S9
    replace S9 := hide S9
    have al := below_alloc y2 (.cells #[.bool s9, .slice m9 n9 c9, .bool t9, .slice o9 p8 d9] 27)
    replace al := al.trans ((below_alloc _ (.cells #[.int .i64 ((p9 : Nat) : Int), .int .i64 ((b9 : Nat) : Int)] 30)).mono (by simp only [World.size_alloc]; omega))
    replace HB := hide (HB.out.trans ((al).mono HB.out.size))
    replace I1 := hide (I1.out.below (al))
    replace V1 := hide (V1.out.step (al))
    replace V2 := hide (V2.out.step (al))
    replace I2 := hide (I2.out.below (al))
    replace V3 := hide (V3.out.step (al))
    replace I3 := hide (I3.out.below (al))
    replace V6 := hide (V6.out.step (al))
    replace I6 := hide (I6.out.below (al))
    replace I9 := hide (I9.out.below (al))
    clear al
    generalize ((y2.alloc (.cells #[.bool s9, .slice m9 n9 c9, .bool t9, .slice o9 p8 d9] 27)).alloc (.cells #[.int .i64 ((p9 : Nat) : Int), .int .i64 ((b9 : Nat) : Int)] 30)) = y2a at *
    generalize y2.heap.size = g9 at *
    by_cases hz : p9 = 0
    · subst hz
      obtain ⟨ht, rfl⟩ := rrd_told H9.out
      have SZ : Hid (SzR 100000000 q9) := hide (H9.out.szr.mono (by decide))
      have HT := hide ht
      clear ht H9
      have hV90 := V9.out.cell0
      have hV91 := V9.out.cell1
      have hV92 := V9.out.cell2
      have hV93 := V9.out.cell3
      have hS90 := S9.out.cell0
      have hS91 := S9.out.cell1
      go_wp2_with fail
      clear hV90 hV91 hV92 hV93
      clear hS90 hS91
      refine (rttext_any _ q9 _ I9.out SZ.out).mono ?_
      rintro e z2 ⟨rfl, hb⟩
      rw [HT.out]
      replace HB := hide (HB.out.trans ((hb).mono HB.out.size))
      replace I1 := hide (I1.out.below (hb))
      replace V1 := hide (V1.out.step (hb))
      replace V2 := hide (V2.out.step (hb))
      replace I2 := hide (I2.out.below (hb))
      replace V3 := hide (V3.out.step (hb))
      replace I3 := hide (I3.out.below (hb))
      replace V6 := hide (V6.out.step (hb))
      replace I6 := hide (I6.out.below (hb))
      replace I9 := hide (I9.out.below (hb))
      replace V9 := hide (V9.out.step (hb))
      replace S9 := hide (S9.out.step (hb))
      clear hb
      go_wp2
      go_ret
      exact ⟨rfl, HB.out⟩
    · have hne : ((p9 : Int) == 0) = false := by simp; omega
      have hV90 := V9.out.cell0
      have hV91 := V9.out.cell1
      have hV92 := V9.out.cell2
      have hV93 := V9.out.cell3
      have hS90 := S9.out.cell0
      have hS91 := S9.out.cell1
      go_wp2
      go_ret
      exact ⟨rfl, HB.out⟩
  · have KZ := hide hk
    clear hk
    go_cut [15, 12] from 18 (fun pt0 pe0 wx => ∃ g6 s6 m6 n6 c6 t6 o6 p6 d6, pt0 = .pointer (some ⟨g6, 0, none⟩) ∧ w6.heap.size ≤ g6 ∧ Box4 wx g6 (.bool s6) (.slice m6 n6 c6) (.bool t6) (.slice o6 p6 d6) ∧ RatAt wx (.agg #[.bool s6, .slice m6 n6 c6, .bool t6, .slice o6 p6 d6]) q5 ∧ pe0 = .int .i64 0 ∧ Below w6.heap.size w6 wx)
    case first =>
      refine wp_facts (fun L T wq => Below w6.heap.size w6 wq ∧ T 9 = .pointer (some ⟨g2, 0, none⟩) ∧ T 10 = .pointer (some ⟨g3, 0, none⟩) ∧ T 1 = .int .i64 k ∧ (L 0 = true → T 83 = .agg #[.bool s2, .slice m2 n2 c2]) ∧ (L 1 = true → T 84 = .int .i64 k) ∧ (L 4 = true → T 87 = .agg #[.bool s3, .slice m3 n3 c3]) ∧ (L 5 = true → T 88 = .int .i64 k) ∧ (L 2 = true → IntAt wq (T 85) k) ∧ (L 3 = true → IntAt wq (T 86) (q5.num * k)) ∧ (L 6 = true → IntAt wq (T 89) k) ∧ (L 7 = true → IntAt wq (T 90) ((q5.den : Int) * k)) ∧ (L 8 = true → ∃ v0 v1 : Value, T 91 = .tuple #[v0, v1] ∧ RatAt wq (v0) q5 ∧ v1 = .int .i64 0) ∧ (L 9 = true → ∃ v0 v1 : Value, T 82 = .tuple #[v0, v1] ∧ RatAt wq (v0) q5 ∧ v1 = .int .i64 0) ∧ (L 10 = true → RatAt wq (T 92) q5) ∧ (L 11 = true → T 93 = .int .i64 0) ∧ (L 14 = true → T 12 = .int .i64 0) ∧ (L 12 = true → PS w6.heap.size wq (T 15)) ∧ (L 12 = true → L 13 = false → PB w6.heap.size wq 27 (T 15) [.bool false, .slice none 0 0, .bool false, .slice none 0 0]) ∧ (L 13 = true → PV w6.heap.size wq 27 (T 15) (T 92))) 128 [12, 15, 82, 83, 84, 85, 86, 87, 88, 89, 90, 91, 92, 93] [0, 1, 2, 3, 4, 5, 6, 7, 8, 9, 10, 11, 12, 13, 14] (by kernel_rfl) (by kernel_rfl) (by kernel_rfl) (by kernel_rfl) ?_ ?_ ?_
      · exact ⟨(Below.refl w6.heap.size w6).drew, rfl, rfl, rfl, no_yet, no_yet, no_yet, no_yet, no_yet, no_yet, no_yet, no_yet, no_yet, no_yet, no_yet, no_yet, no_yet, no_yet, no_yet, no_yet⟩
      · intro i hi
        match i, hi with
        | 0, _ =>
          refine StepAt.of (need := []) (later := []) (k := 6) (d := some 83) rfl rfl (by kernel_rfl) (by kernel_rfl) ?_
          intro L T wq ev a he hL hN hM hJ next hnext
          have e9 := (he.tmp 9).trans hJ.2.1
          have hcl0 := ((V2.out).step hJ.1).cell0
          have hcl1 := ((V2.out).step hJ.1).cell1
          go_simp
          exact hnext _ _ ⟨hJ.1, hJ.2.1, hJ.2.2.1, hJ.2.2.2.1, fun _ => rfl, hJ.2.2.2.2.2.1, hJ.2.2.2.2.2.2.1, hJ.2.2.2.2.2.2.2.1, hJ.2.2.2.2.2.2.2.2.1, hJ.2.2.2.2.2.2.2.2.2.1, hJ.2.2.2.2.2.2.2.2.2.2.1, hJ.2.2.2.2.2.2.2.2.2.2.2.1, hJ.2.2.2.2.2.2.2.2.2.2.2.2.1, hJ.2.2.2.2.2.2.2.2.2.2.2.2.2.1, hJ.2.2.2.2.2.2.2.2.2.2.2.2.2.2.1, hJ.2.2.2.2.2.2.2.2.2.2.2.2.2.2.2.1, hJ.2.2.2.2.2.2.2.2.2.2.2.2.2.2.2.2.1, hJ.2.2.2.2.2.2.2.2.2.2.2.2.2.2.2.2.2.1, hJ.2.2.2.2.2.2.2.2.2.2.2.2.2.2.2.2.2.2.1, hJ.2.2.2.2.2.2.2.2.2.2.2.2.2.2.2.2.2.2.2⟩
        | 1, _ =>
          refine StepAt.of (need := []) (later := []) (k := 6) (d := some 84) rfl rfl (by kernel_rfl) (by kernel_rfl) ?_
          intro L T wq ev a he hL hN hM hJ next hnext
          have e1 := (he.tmp 1).trans hJ.2.2.2.1
          go_simp
          exact hnext _ _ ⟨hJ.1, hJ.2.1, hJ.2.2.1, hJ.2.2.2.1, hJ.2.2.2.2.1, fun _ => rfl, hJ.2.2.2.2.2.2.1, hJ.2.2.2.2.2.2.2.1, hJ.2.2.2.2.2.2.2.2.1, hJ.2.2.2.2.2.2.2.2.2.1, hJ.2.2.2.2.2.2.2.2.2.2.1, hJ.2.2.2.2.2.2.2.2.2.2.2.1, hJ.2.2.2.2.2.2.2.2.2.2.2.2.1, hJ.2.2.2.2.2.2.2.2.2.2.2.2.2.1, hJ.2.2.2.2.2.2.2.2.2.2.2.2.2.2.1, hJ.2.2.2.2.2.2.2.2.2.2.2.2.2.2.2.1, hJ.2.2.2.2.2.2.2.2.2.2.2.2.2.2.2.2.1, hJ.2.2.2.2.2.2.2.2.2.2.2.2.2.2.2.2.2.1, hJ.2.2.2.2.2.2.2.2.2.2.2.2.2.2.2.2.2.2.1, hJ.2.2.2.2.2.2.2.2.2.2.2.2.2.2.2.2.2.2.2⟩
        | 2, _ =>
          refine StepAt.of (need := [1]) (later := []) (k := 6) (d := some 85) rfl rfl (by kernel_rfl) (by kernel_rfl) ?_
          intro L T wq ev a he hL hN hM hJ next hnext
          have e84 := (he.tmp 84).trans (hJ.2.2.2.2.2.1 (hN.1))
          have ef := he.func
          go_simp
          refine (iof_any k _ HK.out.1 HK.out.2).mono ?_
          rintro e wq' ⟨v, rfl, i, hb⟩
          exact hnext _ _ ⟨hJ.1.trans ((hb).mono hJ.1.size), hJ.2.1, hJ.2.2.1, hJ.2.2.2.1, hJ.2.2.2.2.1, hJ.2.2.2.2.2.1, hJ.2.2.2.2.2.2.1, hJ.2.2.2.2.2.2.2.1, fun _ => i, fun h => (hJ.2.2.2.2.2.2.2.2.2.1 h).below (hb), fun h => (hJ.2.2.2.2.2.2.2.2.2.2.1 h).below (hb), fun h => (hJ.2.2.2.2.2.2.2.2.2.2.2.1 h).below (hb), fun h => let ⟨v0, v1, e, y0, y1⟩ := hJ.2.2.2.2.2.2.2.2.2.2.2.2.1 h; ⟨v0, v1, e, y0.below (hb), y1⟩, fun h => let ⟨v0, v1, e, y0, y1⟩ := hJ.2.2.2.2.2.2.2.2.2.2.2.2.2.1 h; ⟨v0, v1, e, y0.below (hb), y1⟩, fun h => (hJ.2.2.2.2.2.2.2.2.2.2.2.2.2.2.1 h).below (hb), hJ.2.2.2.2.2.2.2.2.2.2.2.2.2.2.2.1, hJ.2.2.2.2.2.2.2.2.2.2.2.2.2.2.2.2.1, fun h => (hJ.2.2.2.2.2.2.2.2.2.2.2.2.2.2.2.2.2.1 h).step (hb), fun h h' => (hJ.2.2.2.2.2.2.2.2.2.2.2.2.2.2.2.2.2.2.1 h h').step (hb), fun h => (hJ.2.2.2.2.2.2.2.2.2.2.2.2.2.2.2.2.2.2.2 h).step (hb)⟩
        | 3, _ =>
          refine StepAt.of (need := [0, 2]) (later := []) (k := 6) (d := some 86) rfl rfl (by kernel_rfl) (by kernel_rfl) ?_
          intro L T wq ev a he hL hN hM hJ next hnext
          have e83 := (he.tmp 83).trans (hJ.2.2.2.2.1 (hN.1))
          have e85 := he.tmp 85
          have ef := he.func
          go_simp
          refine (imul_any _ _ q5.num k _ (I2.out.below hJ.1) (hJ.2.2.2.2.2.2.2.2.1 (hN.2.1)) (SzI.len SQ.out.num (by decide)) (SzI.len SK.out (by decide))).mono ?_
          rintro e wq' ⟨v, rfl, i, hb⟩
          exact hnext _ _ ⟨hJ.1.trans ((hb).mono hJ.1.size), hJ.2.1, hJ.2.2.1, hJ.2.2.2.1, hJ.2.2.2.2.1, hJ.2.2.2.2.2.1, hJ.2.2.2.2.2.2.1, hJ.2.2.2.2.2.2.2.1, fun h => (hJ.2.2.2.2.2.2.2.2.1 h).below (hb), fun _ => i, fun h => (hJ.2.2.2.2.2.2.2.2.2.2.1 h).below (hb), fun h => (hJ.2.2.2.2.2.2.2.2.2.2.2.1 h).below (hb), fun h => let ⟨v0, v1, e, y0, y1⟩ := hJ.2.2.2.2.2.2.2.2.2.2.2.2.1 h; ⟨v0, v1, e, y0.below (hb), y1⟩, fun h => let ⟨v0, v1, e, y0, y1⟩ := hJ.2.2.2.2.2.2.2.2.2.2.2.2.2.1 h; ⟨v0, v1, e, y0.below (hb), y1⟩, fun h => (hJ.2.2.2.2.2.2.2.2.2.2.2.2.2.2.1 h).below (hb), hJ.2.2.2.2.2.2.2.2.2.2.2.2.2.2.2.1, hJ.2.2.2.2.2.2.2.2.2.2.2.2.2.2.2.2.1, fun h => (hJ.2.2.2.2.2.2.2.2.2.2.2.2.2.2.2.2.2.1 h).step (hb), fun h h' => (hJ.2.2.2.2.2.2.2.2.2.2.2.2.2.2.2.2.2.2.1 h h').step (hb), fun h => (hJ.2.2.2.2.2.2.2.2.2.2.2.2.2.2.2.2.2.2.2 h).step (hb)⟩
        | 4, _ =>
          refine StepAt.of (need := []) (later := []) (k := 6) (d := some 87) rfl rfl (by kernel_rfl) (by kernel_rfl) ?_
          intro L T wq ev a he hL hN hM hJ next hnext
          have e10 := (he.tmp 10).trans hJ.2.2.1
          have hcl0 := ((V3.out).step hJ.1).cell0
          have hcl1 := ((V3.out).step hJ.1).cell1
          go_simp
          exact hnext _ _ ⟨hJ.1, hJ.2.1, hJ.2.2.1, hJ.2.2.2.1, hJ.2.2.2.2.1, hJ.2.2.2.2.2.1, fun _ => rfl, hJ.2.2.2.2.2.2.2.1, hJ.2.2.2.2.2.2.2.2.1, hJ.2.2.2.2.2.2.2.2.2.1, hJ.2.2.2.2.2.2.2.2.2.2.1, hJ.2.2.2.2.2.2.2.2.2.2.2.1, hJ.2.2.2.2.2.2.2.2.2.2.2.2.1, hJ.2.2.2.2.2.2.2.2.2.2.2.2.2.1, hJ.2.2.2.2.2.2.2.2.2.2.2.2.2.2.1, hJ.2.2.2.2.2.2.2.2.2.2.2.2.2.2.2.1, hJ.2.2.2.2.2.2.2.2.2.2.2.2.2.2.2.2.1, hJ.2.2.2.2.2.2.2.2.2.2.2.2.2.2.2.2.2.1, hJ.2.2.2.2.2.2.2.2.2.2.2.2.2.2.2.2.2.2.1, hJ.2.2.2.2.2.2.2.2.2.2.2.2.2.2.2.2.2.2.2⟩
        | 5, _ =>
          refine StepAt.of (need := []) (later := []) (k := 6) (d := some 88) rfl rfl (by kernel_rfl) (by kernel_rfl) ?_
          intro L T wq ev a he hL hN hM hJ next hnext
          have e1 := (he.tmp 1).trans hJ.2.2.2.1
          go_simp
          exact hnext _ _ ⟨hJ.1, hJ.2.1, hJ.2.2.1, hJ.2.2.2.1, hJ.2.2.2.2.1, hJ.2.2.2.2.2.1, hJ.2.2.2.2.2.2.1, fun _ => rfl, hJ.2.2.2.2.2.2.2.2.1, hJ.2.2.2.2.2.2.2.2.2.1, hJ.2.2.2.2.2.2.2.2.2.2.1, hJ.2.2.2.2.2.2.2.2.2.2.2.1, hJ.2.2.2.2.2.2.2.2.2.2.2.2.1, hJ.2.2.2.2.2.2.2.2.2.2.2.2.2.1, hJ.2.2.2.2.2.2.2.2.2.2.2.2.2.2.1, hJ.2.2.2.2.2.2.2.2.2.2.2.2.2.2.2.1, hJ.2.2.2.2.2.2.2.2.2.2.2.2.2.2.2.2.1, hJ.2.2.2.2.2.2.2.2.2.2.2.2.2.2.2.2.2.1, hJ.2.2.2.2.2.2.2.2.2.2.2.2.2.2.2.2.2.2.1, hJ.2.2.2.2.2.2.2.2.2.2.2.2.2.2.2.2.2.2.2⟩
        | 6, _ =>
          refine StepAt.of (need := [5]) (later := []) (k := 6) (d := some 89) rfl rfl (by kernel_rfl) (by kernel_rfl) ?_
          intro L T wq ev a he hL hN hM hJ next hnext
          have e88 := (he.tmp 88).trans (hJ.2.2.2.2.2.2.2.1 (hN.1))
          have ef := he.func
          go_simp
          refine (iof_any k _ HK.out.1 HK.out.2).mono ?_
          rintro e wq' ⟨v, rfl, i, hb⟩
          exact hnext _ _ ⟨hJ.1.trans ((hb).mono hJ.1.size), hJ.2.1, hJ.2.2.1, hJ.2.2.2.1, hJ.2.2.2.2.1, hJ.2.2.2.2.2.1, hJ.2.2.2.2.2.2.1, hJ.2.2.2.2.2.2.2.1, fun h => (hJ.2.2.2.2.2.2.2.2.1 h).below (hb), fun h => (hJ.2.2.2.2.2.2.2.2.2.1 h).below (hb), fun _ => i, fun h => (hJ.2.2.2.2.2.2.2.2.2.2.2.1 h).below (hb), fun h => let ⟨v0, v1, e, y0, y1⟩ := hJ.2.2.2.2.2.2.2.2.2.2.2.2.1 h; ⟨v0, v1, e, y0.below (hb), y1⟩, fun h => let ⟨v0, v1, e, y0, y1⟩ := hJ.2.2.2.2.2.2.2.2.2.2.2.2.2.1 h; ⟨v0, v1, e, y0.below (hb), y1⟩, fun h => (hJ.2.2.2.2.2.2.2.2.2.2.2.2.2.2.1 h).below (hb), hJ.2.2.2.2.2.2.2.2.2.2.2.2.2.2.2.1, hJ.2.2.2.2.2.2.2.2.2.2.2.2.2.2.2.2.1, fun h => (hJ.2.2.2.2.2.2.2.2.2.2.2.2.2.2.2.2.2.1 h).step (hb), fun h h' => (hJ.2.2.2.2.2.2.2.2.2.2.2.2.2.2.2.2.2.2.1 h h').step (hb), fun h => (hJ.2.2.2.2.2.2.2.2.2.2.2.2.2.2.2.2.2.2.2 h).step (hb)⟩
        | 7, _ =>
          refine StepAt.of (need := [4, 6]) (later := []) (k := 6) (d := some 90) rfl rfl (by kernel_rfl) (by kernel_rfl) ?_
          intro L T wq ev a he hL hN hM hJ next hnext
          have e87 := (he.tmp 87).trans (hJ.2.2.2.2.2.2.1 (hN.1))
          have e89 := he.tmp 89
          have ef := he.func
          go_simp
          refine (imul_any _ _ (q5.den : Int) k _ (I3.out.below hJ.1) (hJ.2.2.2.2.2.2.2.2.2.2.1 (hN.2.1)) (SzI.len SQ.out.den (by decide)) (SzI.len SK.out (by decide))).mono ?_
          rintro e wq' ⟨v, rfl, i, hb⟩
          exact hnext _ _ ⟨hJ.1.trans ((hb).mono hJ.1.size), hJ.2.1, hJ.2.2.1, hJ.2.2.2.1, hJ.2.2.2.2.1, hJ.2.2.2.2.2.1, hJ.2.2.2.2.2.2.1, hJ.2.2.2.2.2.2.2.1, fun h => (hJ.2.2.2.2.2.2.2.2.1 h).below (hb), fun h => (hJ.2.2.2.2.2.2.2.2.2.1 h).below (hb), fun h => (hJ.2.2.2.2.2.2.2.2.2.2.1 h).below (hb), fun _ => i, fun h => let ⟨v0, v1, e, y0, y1⟩ := hJ.2.2.2.2.2.2.2.2.2.2.2.2.1 h; ⟨v0, v1, e, y0.below (hb), y1⟩, fun h => let ⟨v0, v1, e, y0, y1⟩ := hJ.2.2.2.2.2.2.2.2.2.2.2.2.2.1 h; ⟨v0, v1, e, y0.below (hb), y1⟩, fun h => (hJ.2.2.2.2.2.2.2.2.2.2.2.2.2.2.1 h).below (hb), hJ.2.2.2.2.2.2.2.2.2.2.2.2.2.2.2.1, hJ.2.2.2.2.2.2.2.2.2.2.2.2.2.2.2.2.1, fun h => (hJ.2.2.2.2.2.2.2.2.2.2.2.2.2.2.2.2.2.1 h).step (hb), fun h h' => (hJ.2.2.2.2.2.2.2.2.2.2.2.2.2.2.2.2.2.2.1 h h').step (hb), fun h => (hJ.2.2.2.2.2.2.2.2.2.2.2.2.2.2.2.2.2.2.2 h).step (hb)⟩
        | 8, _ =>
          refine StepAt.of (need := [3, 7]) (later := []) (k := 6) (d := some 91) rfl rfl (by kernel_rfl) (by kernel_rfl) ?_
          intro L T wq ev a he hL hN hM hJ next hnext
          have e86 := he.tmp 86
          have e90 := he.tmp 90
          have ef := he.func
          go_simp
          refine (rtmake_any _ _ (q5.num * k) ((q5.den : Int) * k) _ (hJ.2.2.2.2.2.2.2.2.2.1 (hN.1)) (hJ.2.2.2.2.2.2.2.2.2.2.2.1 (hN.2.1)) (SzI.len (SQ.out.num.mul SK.out) (by decide)) (SzI.len (SQ.out.den.mul SK.out) (by decide)) (Int.mul_ne_zero DZ.out KZ.out)).mono ?_
          rintro e wq' ⟨v, rfl, i1, hb⟩
          rw [divInt_times _ KZ.out] at i1
          exact hnext _ _ ⟨hJ.1.trans ((hb).mono hJ.1.size), hJ.2.1, hJ.2.2.1, hJ.2.2.2.1, hJ.2.2.2.2.1, hJ.2.2.2.2.2.1, hJ.2.2.2.2.2.2.1, hJ.2.2.2.2.2.2.2.1, fun h => (hJ.2.2.2.2.2.2.2.2.1 h).below (hb), fun h => (hJ.2.2.2.2.2.2.2.2.2.1 h).below (hb), fun h => (hJ.2.2.2.2.2.2.2.2.2.2.1 h).below (hb), fun h => (hJ.2.2.2.2.2.2.2.2.2.2.2.1 h).below (hb), fun _ => ⟨_, _, rfl, i1, rfl⟩, fun h => let ⟨v0, v1, e, y0, y1⟩ := hJ.2.2.2.2.2.2.2.2.2.2.2.2.2.1 h; ⟨v0, v1, e, y0.below (hb), y1⟩, fun h => (hJ.2.2.2.2.2.2.2.2.2.2.2.2.2.2.1 h).below (hb), hJ.2.2.2.2.2.2.2.2.2.2.2.2.2.2.2.1, hJ.2.2.2.2.2.2.2.2.2.2.2.2.2.2.2.2.1, fun h => (hJ.2.2.2.2.2.2.2.2.2.2.2.2.2.2.2.2.2.1 h).step (hb), fun h h' => (hJ.2.2.2.2.2.2.2.2.2.2.2.2.2.2.2.2.2.2.1 h h').step (hb), fun h => (hJ.2.2.2.2.2.2.2.2.2.2.2.2.2.2.2.2.2.2.2 h).step (hb)⟩
        | 9, _ =>
          refine StepAt.of (need := [8]) (later := []) (k := 6) (d := some 82) rfl rfl (by kernel_rfl) (by kernel_rfl) ?_
          intro L T wq ev a he hL hN hM hJ next hnext
          have e91 := he.tmp 91
          go_simp
          exact hnext _ _ ⟨hJ.1, hJ.2.1, hJ.2.2.1, hJ.2.2.2.1, hJ.2.2.2.2.1, hJ.2.2.2.2.2.1, hJ.2.2.2.2.2.2.1, hJ.2.2.2.2.2.2.2.1, hJ.2.2.2.2.2.2.2.2.1, hJ.2.2.2.2.2.2.2.2.2.1, hJ.2.2.2.2.2.2.2.2.2.2.1, hJ.2.2.2.2.2.2.2.2.2.2.2.1, hJ.2.2.2.2.2.2.2.2.2.2.2.2.1, fun _ => hJ.2.2.2.2.2.2.2.2.2.2.2.2.1 (hN.1), hJ.2.2.2.2.2.2.2.2.2.2.2.2.2.2.1, hJ.2.2.2.2.2.2.2.2.2.2.2.2.2.2.2.1, hJ.2.2.2.2.2.2.2.2.2.2.2.2.2.2.2.2.1, hJ.2.2.2.2.2.2.2.2.2.2.2.2.2.2.2.2.2.1, hJ.2.2.2.2.2.2.2.2.2.2.2.2.2.2.2.2.2.2.1, hJ.2.2.2.2.2.2.2.2.2.2.2.2.2.2.2.2.2.2.2⟩
        | 10, _ =>
          refine StepAt.of (need := [9]) (later := [13]) (k := 6) (d := some 92) rfl rfl (by kernel_rfl) (by kernel_rfl) ?_
          intro L T wq ev a he hL hN hM hJ next hnext
          obtain ⟨v0, v1, hv, y0, y1⟩ := hJ.2.2.2.2.2.2.2.2.2.2.2.2.2.1 (hN.1)
          have e82 := (he.tmp 82).trans hv
          go_simp
          exact hnext _ _ ⟨hJ.1, hJ.2.1, hJ.2.2.1, hJ.2.2.2.1, hJ.2.2.2.2.1, hJ.2.2.2.2.2.1, hJ.2.2.2.2.2.2.1, hJ.2.2.2.2.2.2.2.1, hJ.2.2.2.2.2.2.2.2.1, hJ.2.2.2.2.2.2.2.2.2.1, hJ.2.2.2.2.2.2.2.2.2.2.1, hJ.2.2.2.2.2.2.2.2.2.2.2.1, hJ.2.2.2.2.2.2.2.2.2.2.2.2.1, hJ.2.2.2.2.2.2.2.2.2.2.2.2.2.1, fun _ => y0, hJ.2.2.2.2.2.2.2.2.2.2.2.2.2.2.2.1, hJ.2.2.2.2.2.2.2.2.2.2.2.2.2.2.2.2.1, hJ.2.2.2.2.2.2.2.2.2.2.2.2.2.2.2.2.2.1, hJ.2.2.2.2.2.2.2.2.2.2.2.2.2.2.2.2.2.2.1, fun h => clash (hM.1) h⟩
        | 11, _ =>
          refine StepAt.of (need := [9]) (later := []) (k := 6) (d := some 93) rfl rfl (by kernel_rfl) (by kernel_rfl) ?_
          intro L T wq ev a he hL hN hM hJ next hnext
          obtain ⟨v0, v1, hv, y0, y1⟩ := hJ.2.2.2.2.2.2.2.2.2.2.2.2.2.1 (hN.1)
          have e82 := (he.tmp 82).trans hv
          go_simp
          exact hnext _ _ ⟨hJ.1, hJ.2.1, hJ.2.2.1, hJ.2.2.2.1, hJ.2.2.2.2.1, hJ.2.2.2.2.2.1, hJ.2.2.2.2.2.2.1, hJ.2.2.2.2.2.2.2.1, hJ.2.2.2.2.2.2.2.2.1, hJ.2.2.2.2.2.2.2.2.2.1, hJ.2.2.2.2.2.2.2.2.2.2.1, hJ.2.2.2.2.2.2.2.2.2.2.2.1, hJ.2.2.2.2.2.2.2.2.2.2.2.2.1, hJ.2.2.2.2.2.2.2.2.2.2.2.2.2.1, hJ.2.2.2.2.2.2.2.2.2.2.2.2.2.2.1, fun _ => (by first | exact y1 | exact rfl), hJ.2.2.2.2.2.2.2.2.2.2.2.2.2.2.2.2.1, hJ.2.2.2.2.2.2.2.2.2.2.2.2.2.2.2.2.2.1, hJ.2.2.2.2.2.2.2.2.2.2.2.2.2.2.2.2.2.2.1, hJ.2.2.2.2.2.2.2.2.2.2.2.2.2.2.2.2.2.2.2⟩
        | 12, _ =>
          refine StepAt.of (need := []) (later := [13]) (k := 6) (d := some 15) rfl rfl (by kernel_rfl) (by kernel_rfl) ?_
          intro L T wq ev a he hL hN hM hJ next hnext
          go_simp
          have hb := below_alloc wq (.cells #[.bool false, .slice none 0 0, .bool false, .slice none 0 0] 27)
          exact hnext _ _ ⟨hJ.1.trans ((hb).mono hJ.1.size), hJ.2.1, hJ.2.2.1, hJ.2.2.2.1, hJ.2.2.2.2.1, hJ.2.2.2.2.2.1, hJ.2.2.2.2.2.2.1, hJ.2.2.2.2.2.2.2.1, fun h => (hJ.2.2.2.2.2.2.2.2.1 h).below (hb), fun h => (hJ.2.2.2.2.2.2.2.2.2.1 h).below (hb), fun h => (hJ.2.2.2.2.2.2.2.2.2.2.1 h).below (hb), fun h => (hJ.2.2.2.2.2.2.2.2.2.2.2.1 h).below (hb), fun h => let ⟨v0, v1, e, y0, y1⟩ := hJ.2.2.2.2.2.2.2.2.2.2.2.2.1 h; ⟨v0, v1, e, y0.below (hb), y1⟩, fun h => let ⟨v0, v1, e, y0, y1⟩ := hJ.2.2.2.2.2.2.2.2.2.2.2.2.2.1 h; ⟨v0, v1, e, y0.below (hb), y1⟩, fun h => (hJ.2.2.2.2.2.2.2.2.2.2.2.2.2.2.1 h).below (hb), hJ.2.2.2.2.2.2.2.2.2.2.2.2.2.2.2.1, hJ.2.2.2.2.2.2.2.2.2.2.2.2.2.2.2.2.1, fun _ => PS.new hJ.1.size _, fun _ _ => PB.new hJ.1.size _ [.bool false, .slice none 0 0, .bool false, .slice none 0 0], fun h => clash (hM.1) h⟩
        | 13, _ =>
          refine StepAt.of (need := [12, 10]) (later := []) (k := 6) (d := none) rfl rfl (by kernel_rfl) (by kernel_rfl) ?_
          intro L T wq ev a he hL hN hM hJ next hnext
          obtain ⟨g, hg, hge, hbx⟩ := hJ.2.2.2.2.2.2.2.2.2.2.2.2.2.2.2.2.2.2.1 (hN.1) hL
          obtain ⟨sv, mv, nv, cv, sv', mv', nv', cv', hv, iv⟩ := (hJ.2.2.2.2.2.2.2.2.2.2.2.2.2.2.1 (hN.2.1)).cells
          have e15 := (he.tmp 15).trans hg
          have e92 := (he.tmp 92).trans hv
          have hc0 := hbx.cell 0 rfl
          have hf0 := hbx.free 0
          have hc1 := hbx.cell 1 rfl
          have hf1 := hbx.free 1
          have hc2 := hbx.cell 2 rfl
          have hf2 := hbx.free 2
          have hc3 := hbx.cell 3 rfl
          have hf3 := hbx.free 3
          have hk := keeps_all hbx (by intro c hc z e; subst e; simp at hc) [.bool sv, .slice mv nv cv, .bool sv', .slice mv' nv' cv'] rfl
          go_simp
          exact hnext undef _ ⟨below_all hge [.bool sv, .slice mv nv cv, .bool sv', .slice mv' nv' cv'] 0 _ hJ.1, hJ.2.1, hJ.2.2.1, hJ.2.2.2.1, hJ.2.2.2.2.1, hJ.2.2.2.2.2.1, hJ.2.2.2.2.2.2.1, hJ.2.2.2.2.2.2.2.1, fun h => (hJ.2.2.2.2.2.2.2.2.1 h).keep hk, fun h => (hJ.2.2.2.2.2.2.2.2.2.1 h).keep hk, fun h => (hJ.2.2.2.2.2.2.2.2.2.2.1 h).keep hk, fun h => (hJ.2.2.2.2.2.2.2.2.2.2.2.1 h).keep hk, fun h => let ⟨v0, v1, e, y0, y1⟩ := hJ.2.2.2.2.2.2.2.2.2.2.2.2.1 h; ⟨v0, v1, e, y0.keep hk, y1⟩, fun h => let ⟨v0, v1, e, y0, y1⟩ := hJ.2.2.2.2.2.2.2.2.2.2.2.2.2.1 h; ⟨v0, v1, e, y0.keep hk, y1⟩, fun h => (hJ.2.2.2.2.2.2.2.2.2.2.2.2.2.2.1 h).keep hk, hJ.2.2.2.2.2.2.2.2.2.2.2.2.2.2.2.1, hJ.2.2.2.2.2.2.2.2.2.2.2.2.2.2.2.2.1, fun h => (hJ.2.2.2.2.2.2.2.2.2.2.2.2.2.2.2.2.2.1 h).put [.bool sv, .slice mv nv cv, .bool sv', .slice mv' nv' cv'], fun _ h => no_more h, fun _ => PV.set' [.bool sv, .slice mv nv cv, .bool sv', .slice mv' nv' cv'] hg hv hbx hge rfl⟩
        | 14, _ =>
          refine StepAt.of (need := [11]) (later := []) (k := 6) (d := some 12) rfl rfl (by kernel_rfl) (by kernel_rfl) ?_
          intro L T wq ev a he hL hN hM hJ next hnext
          have e93 := he.tmp 93
          go_simp
          exact hnext _ _ ⟨hJ.1, hJ.2.1, hJ.2.2.1, hJ.2.2.2.1, hJ.2.2.2.2.1, hJ.2.2.2.2.2.1, hJ.2.2.2.2.2.2.1, hJ.2.2.2.2.2.2.2.1, hJ.2.2.2.2.2.2.2.2.1, hJ.2.2.2.2.2.2.2.2.2.1, hJ.2.2.2.2.2.2.2.2.2.2.1, hJ.2.2.2.2.2.2.2.2.2.2.2.1, hJ.2.2.2.2.2.2.2.2.2.2.2.2.1, hJ.2.2.2.2.2.2.2.2.2.2.2.2.2.1, hJ.2.2.2.2.2.2.2.2.2.2.2.2.2.2.1, hJ.2.2.2.2.2.2.2.2.2.2.2.2.2.2.2.1, fun _ => hJ.2.2.2.2.2.2.2.2.2.2.2.2.2.2.2.1 (hN.1), hJ.2.2.2.2.2.2.2.2.2.2.2.2.2.2.2.2.2.1, hJ.2.2.2.2.2.2.2.2.2.2.2.2.2.2.2.2.2.2.1, hJ.2.2.2.2.2.2.2.2.2.2.2.2.2.2.2.2.2.2.2⟩
        | k + 15, hi => exact absurd hi (Nat.not_lt.2 (Nat.le_add_left 15 k))
      · intro L a wq hA hJ hs hd hf
        obtain ⟨g6, cs0, hp0, hge0, hv0, hb0⟩ := hJ.2.2.2.2.2.2.2.2.2.2.2.2.2.2.2.2.2.2.2 (hA.2.2.2.2.2.2.2.2.2.2.2.2.2.1)
        have i0 := hJ.2.2.2.2.2.2.2.2.2.2.2.2.2.2.1 (hA.2.2.2.2.2.2.2.2.2.2.1)
        obtain ⟨s6, m6, n6, c6, t6, o6, p6, d6, hq0, i0⟩ := i0.cells
        rw [hq0, Value.agg.injEq] at hv0
        have hl0 : cs0 = _ := congrArg Array.toList hv0.symm
        subst hl0
        refine (by assumption : ∀ a' w', Met _ a' w' → _) _ _ (Met.intro ((by assumption : ∀ a' w', _ → _) _ _ ?_))
        exact ⟨a.tmps.getD 12 undef, a.tmps.getD 15 undef, a.tmps.getD 18 undef, a.tmps.getD 19 undef, a.tmps.getD 20 undef, a.tmps.getD 21 undef, a.tmps.getD 22 undef, a.tmps.getD 23 undef, a.tmps.getD 24 undef, a.tmps.getD 25 undef, a.tmps.getD 26 undef, a.tmps.getD 27 undef, a.tmps.getD 28 undef, a.tmps.getD 29 undef, a.tmps.getD 30 undef, a.tmps.getD 31 undef, a.tmps.getD 32 undef, a.tmps.getD 33 undef, a.tmps.getD 34 undef, a.tmps.getD 35 undef, a.tmps.getD 36 undef, a.tmps.getD 37 undef, a.tmps.getD 38 undef, a.tmps.getD 39 undef, a.tmps.getD 40 undef, a.tmps.getD 41 undef, a.tmps.getD 42 undef, a.tmps.getD 43 undef, a.tmps.getD 44 undef, a.tmps.getD 45 undef, a.tmps.getD 46 undef, a.tmps.getD 47 undef, a.tmps.getD 48 undef, a.tmps.getD 49 undef, a.tmps.getD 50 undef, a.tmps.getD 51 undef, a.tmps.getD 52 undef, a.tmps.getD 53 undef, a.tmps.getD 54 undef, a.tmps.getD 55 undef, a.tmps.getD 56 undef, a.tmps.getD 57 undef, a.tmps.getD 58 undef, a.tmps.getD 59 undef, a.tmps.getD 60 undef, a.tmps.getD 61 undef, a.tmps.getD 62 undef, a.tmps.getD 63 undef, a.tmps.getD 64 undef, a.tmps.getD 65 undef, a.tmps.getD 66 undef, a.tmps.getD 67 undef, a.tmps.getD 68 undef, a.tmps.getD 69 undef, a.tmps.getD 70 undef, a.tmps.getD 71 undef, a.tmps.getD 72 undef, a.tmps.getD 73 undef, a.tmps.getD 74 undef, a.tmps.getD 75 undef, a.tmps.getD 76 undef, a.tmps.getD 77 undef, a.tmps.getD 78 undef, a.tmps.getD 79 undef, a.tmps.getD 80 undef, a.tmps.getD 81 undef, a.tmps.getD 82 undef, a.tmps.getD 83 undef, a.tmps.getD 84 undef, a.tmps.getD 85 undef, a.tmps.getD 86 undef, a.tmps.getD 87 undef, a.tmps.getD 88 undef, a.tmps.getD 89 undef, a.tmps.getD 90 undef, a.tmps.getD 91 undef, a.tmps.getD 92 undef, a.tmps.getD 93 undef, a.tmps.getD 94 undef, a.tmps.getD 95 undef, a.tmps.getD 96 undef, a.tmps.getD 97 undef, a.tmps.getD 98 undef, a.tmps.getD 99 undef, a.tmps.getD 100 undef, a.tmps.getD 101 undef, a.tmps.getD 102 undef, a.tmps.getD 103 undef, a.tmps.getD 104 undef, a.tmps.getD 105 undef, a.tmps.getD 106 undef, a.tmps.getD 107 undef, a.tmps.getD 108 undef, a.tmps.getD 109 undef, a.tmps.getD 110 undef, a.tmps.getD 111 undef, a.tmps.getD 112 undef, a.tmps.getD 113 undef, a.tmps.getD 114 undef, a.tmps.getD 115 undef, a.tmps.getD 116 undef, a.tmps.getD 117 undef, a.tmps.getD 118 undef, a.tmps.getD 119 undef, a.tmps.getD 120 undef, a.tmps.getD 121 undef, a.tmps.getD 122 undef, a.tmps.getD 123 undef, a.tmps.getD 124 undef, a.tmps.getD 125 undef, a.tmps.getD 126 undef, a.tmps.getD 127 undef, ⟨g6, s6, m6, n6, c6, t6, o6, p6, d6, hp0, hge0, hb0, i0, hJ.2.2.2.2.2.2.2.2.2.2.2.2.2.2.2.2.1 (hA.2.2.2.2.2.2.2.2.2.2.2.2.2.2.1), hJ.1⟩, act_eq _ _ [12, 15, 18, 19, 20, 21, 22, 23, 24, 25, 26, 27, 28, 29, 30, 31, 32, 33, 34, 35, 36, 37, 38, 39, 40, 41, 42, 43, 44, 45, 46, 47, 48, 49, 50, 51, 52, 53, 54, 55, 56, 57, 58, 59, 60, 61, 62, 63, 64, 65, 66, 67, 68, 69, 70, 71, 72, 73, 74, 75, 76, 77, 78, 79, 80, 81, 82, 83, 84, 85, 86, 87, 88, 89, 90, 91, 92, 93, 94, 95, 96, 97, 98, 99, 100, 101, 102, 103, 104, 105, 106, 107, 108, 109, 110, 111, 112, 113, 114, 115, 116, 117, 118, 119, 120, 121, 122, 123, 124, 125, 126, 127] hf (by kernel_rfl) (hs.trans (by kernel_rfl)) hd (by kernel_rfl)⟩
    case rest =>
    obtain ⟨g6, s6, m6, n6, c6, t6, o6, p6, d6, rfl, hge0, hbx0, hi0, rfl, hb⟩ := hcut
    replace HB := hide (HB.out.trans ((hb).mono HB.out.size))
    replace I1 := hide (I1.out.below (hb))
    replace V1 := hide (V1.out.step (hb))
    replace V2 := hide (V2.out.step (hb))
    replace I2 := hide (I2.out.below (hb))
    replace V3 := hide (V3.out.step (hb))
    replace I3 := hide (I3.out.below (hb))
    have V6 := hide hbx0
    have I6 := hide hi0
    clear hb hge0 hbx0 hi0
    generalize hwc : wc = wc12 at *
    clear hwc
    have hk0 : (k == 0) = false := by have := KZ.out; simpa using this
    have hk1 : (k != 0) = true := by have := KZ.out; simpa using this
    have hV10 := V1.out.cell0
    have hV11 := V1.out.cell1
    have hV12 := V1.out.cell2
    have hV13 := V1.out.cell3
    have hV60 := V6.out.cell0
    have hV61 := V6.out.cell1
    have hV62 := V6.out.cell2
    have hV63 := V6.out.cell3
    go_wp2_with fail
    clear hV10 hV11 hV12 hV13
    clear hV60 hV61 hV62 hV63
    refine (same_any _ _ q5 q5 _ I1.out I6.out).mono ?_
    rintro e w7 ⟨he, hb⟩
    rw [show decide (q5 = q5) = true from by simp] at he
    subst he
    replace HB := hide (HB.out.trans ((hb).mono HB.out.size))
    replace I1 := hide (I1.out.below (hb))
    replace V1 := hide (V1.out.step (hb))
    replace V2 := hide (V2.out.step (hb))
    replace I2 := hide (I2.out.below (hb))
    replace V3 := hide (V3.out.step (hb))
    replace I3 := hide (I3.out.below (hb))
    replace V6 := hide (V6.out.step (hb))
    replace I6 := hide (I6.out.below (hb))
    clear hb
    go_wp2_with fail
    clear hk0 hk1
    refine (rread_rat t _ LT.out).mono ?_
    rintro e y3 ⟨⟨v, q9, p9, b9, rfl, kx, hr⟩, hb⟩
    obtain ⟨s9, m9, n9, c9, t9, o9, p8, d9, rfl, ky⟩ := kx.cells
    have H9 := hide hr
    replace HB := hide (HB.out.trans ((hb).mono HB.out.size))
    replace I1 := hide (I1.out.below (hb))
    replace V1 := hide (V1.out.step (hb))
    replace V2 := hide (V2.out.step (hb))
    replace I2 := hide (I2.out.below (hb))
    replace V3 := hide (V3.out.step (hb))
    replace I3 := hide (I3.out.below (hb))
    replace V6 := hide (V6.out.step (hb))
    replace I6 := hide (I6.out.below (hb))
    have I9 := hide (ky)
    clear hb kx ky hr
    go_upto_region 16 with fail
    have V9 := Box4.new y3 (.bool s9) (.slice m9 n9 c9) (.bool t9) (.slice o9 p8 d9)
    replace V9 := V9.step (below_alloc _ (.cells #[.int .i64 ((p9 : Nat) : Int), .int .i64 ((b9 : Nat) : Int)] 30))
    replace V9 := hide V9
    have S9 := BoxS.new (y3.alloc (.cells #[.bool s9, .slice m9 n9 c9, .bool t9, .slice o9 p8 d9] 27)) (.int .i64 ((p9 : Nat) : Int)) (.int .i64 ((b9 : Nat) : Int))
    simp only [World.size_alloc] at S9
    replace S9 := hide S9
    have al := below_alloc y3 (.cells #[.bool s9, .slice m9 n9 c9, .bool t9, .slice o9 p8 d9] 27)
    replace al := al.trans ((below_alloc _ (.cells #[.int .i64 ((p9 : Nat) : Int), .int .i64 ((b9 : Nat) : Int)] 30)).mono (by simp only [World.size_alloc]; omega))
    replace HB := hide (HB.out.trans ((al).mono HB.out.size))
    replace I1 := hide (I1.out.below (al))
    replace V1 := hide (V1.out.step (al))
    replace V2 := hide (V2.out.step (al))
    replace I2 := hide (I2.out.below (al))
    replace V3 := hide (V3.out.step (al))
    replace I3 := hide (I3.out.below (al))
    replace V6 := hide (V6.out.step (al))
    replace I6 := hide (I6.out.below (al))
    replace I9 := hide (I9.out.below (al))
    clear al
    generalize ((y3.alloc (.cells #[.bool s9, .slice m9 n9 c9, .bool t9, .slice o9 p8 d9] 27)).alloc (.cells #[.int .i64 ((p9 : Nat) : Int), .int .i64 ((b9 : Nat) : Int)] 30)) = y3a at *
    generalize y3.heap.size = g9 at *
    by_cases hz : p9 = 0
    · subst hz
      obtain ⟨ht, rfl⟩ := rrd_told H9.out
      have SZ : Hid (SzR 100000000 q9) := hide (H9.out.szr.mono (by decide))
      have HT := hide ht
      clear ht H9
      have hV90 := V9.out.cell0
      have hV91 := V9.out.cell1
      have hV92 := V9.out.cell2
      have hV93 := V9.out.cell3
      have hS90 := S9.out.cell0
      have hS91 := S9.out.cell1
      go_wp2_with fail
      clear hV90 hV91 hV92 hV93
      clear hS90 hS91
      refine (rttext_any _ q9 _ I9.out SZ.out).mono ?_
      rintro e z3 ⟨rfl, hb⟩
      rw [HT.out]
      replace HB := hide (HB.out.trans ((hb).mono HB.out.size))
      replace I1 := hide (I1.out.below (hb))
      replace V1 := hide (V1.out.step (hb))
      replace V2 := hide (V2.out.step (hb))
      replace I2 := hide (I2.out.below (hb))
      replace V3 := hide (V3.out.step (hb))
      replace I3 := hide (I3.out.below (hb))
      replace V6 := hide (V6.out.step (hb))
      replace I6 := hide (I6.out.below (hb))
      replace I9 := hide (I9.out.below (hb))
      replace V9 := hide (V9.out.step (hb))
      replace S9 := hide (S9.out.step (hb))
      clear hb
      go_wp2
      go_ret
      exact ⟨rfl, HB.out⟩
    · have hne : ((p9 : Int) == 0) = false := by simp; omega
      have hV90 := V9.out.cell0
      have hV91 := V9.out.cell1
      have hV92 := V9.out.cell2
      have hV93 := V9.out.cell3
      have hS90 := S9.out.cell0
      have hS91 := S9.out.cell1
      go_wp2
      go_ret
      exact ⟨rfl, HB.out⟩
end Go.Proofs.Ytjceiakgedkmcaa
