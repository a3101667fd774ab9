/- point.All's iterator: all norms, left early or not. -/
import Derived.Test.YtphohclnendhmaaDoorPtAll0
import Derived.Sort.CutIn
import Derived.RegionTactic
import Derived.Deep.Cut
namespace Go.Proofs.YtphohclnendhmaaDoor
open Go.RowKit Go.Shelf
attribute [local go_sem] Oper.semAt_some

set_option maxRecDepth 100000 in
set_option maxHeartbeats 4000000 in
theorem all_in (n l bm lo hi m : Nat) (hn2 : 2 ≤ n) (h1 : 1 ≤ m) (h16 : m ≤ 16) (hx1 : lo ≤ bm) (hx2 : bm < hi) (J Jx : List (Int × Int) → World → Prop) (W : World) (hsz : hi ≤ W.heap.size) (hJ : OwnFrom W.heap.size J) (hJx : OwnFrom W.heap.size Jx)
    (hY : ∀ pre x U, J pre U → pre.length < (allQ m).length → YieldAt Fence.wide (n - 1) Tryd.prog l (ptE x) U fun e V => KeepsFrom W.heap.size U V ∧ ((e = .returned (.bool true) ∧ J (pre ++ [x]) V ∧ KA lo hi W.heap.size U V) ∨ (e = .returned (.bool false) ∧ Jx (pre ++ [x]) V)))
    (hBx : W.cell? ⟨bm, 0, none⟩ = some (.int .i64 m)) (h0 : J [] W) :
    CallsIn Fence.wide n Tryd.prog 21 #[.func (.yield l) #[] #[], .pointer (some ⟨bm, 0, none⟩)] W fun e V => (∃ v, e = .returned v) ∧ ((∃ ys, ys = allQ m ∧ J ys V) ∨ (∃ pre, pre <+: allQ m ∧ Jx pre V)) := by
  have HY := hide hY
  have HJ := hide hJ
  have HX := hide hJx
  clear hY hJ hJx
  refine callsIn_of_wp_marks Tryd.func21 rfl trivial ?_ rfl
  simp only [Tryd.ntmps21, List.size_toArray, List.length_cons, List.length_nil, Nat.reduceAdd, Nat.reduceSub, Array.replicate_succ, Array.replicate_zero, List.push_toArray, List.append_toArray, List.nil_append, List.cons_append]
  have hm1 : ¬ (m : Int) < 1 := by omega
  have hm2 : ¬ (16 : Int) < (m : Int) := by omega
  gi_upto_region 1 with fail
  have hb := below_alloc W (.cells #[.func (.yield l) #[] #[]] 25)
  have BY := hide (Boxed.new W 25 (.func (.yield l) #[] #[]))
  have KK := hide (KA.below (lo := lo) (hi := hi) (B := W.heap.size) hb hsz)
  have J0 := hide (HJ.out.alloc (.cells #[.func (.yield l) #[] #[]] 25) h0)
  clear hb h0
  generalize W.alloc (.cells #[.func (.yield l) #[] #[]] 25) = w1 at *
  obtain ⟨gY, hgY⟩ : ∃ q, q = W.heap.size := ⟨_, rfl⟩
  have GY := hide (Nat.le_of_eq hgY.symm)
  rw [← hgY] at BY ⊢
  clear hgY
  have cm := (KK.out.1.cell (o := 0) hx1 hx2).trans hBx
  have cy := BY.out.cell
  obtain ⟨fn1, tm1, as1, bd1, hy1, hr1⟩ := yield_at (k := n - 1) (HY.out [] (0, 1) w1 J0.out (by have := allQ_len2 m; simp only [List.length_nil]; omega))
  have R1 := hide hr1
  unfold ptE at hy1
  dsimp only at hy1
  clear hr1
  refine wpIn_wide.2 (wp_scope_straight ((wpIn_wide (n := n)).1 ?_))
  gi_wp2
  refine ⟨(fun h => by cases h), R1.out.mono ?_⟩
  rintro e V ⟨kf, (⟨rfl, j1, ka⟩ | ⟨rfl, jx⟩)⟩
  case inr =>
    clear hy1 cy cm
    gi_wp2
    refine ⟨(fun _ h => by cases h), ?_⟩
    gi_wp2
    try rw [Exit.noGoto_ret]
    refine bodyPostM_none rfl ?_
    exact ⟨⟨_, rfl⟩, .inr ⟨_, ⟨(1, 0) :: _, rfl⟩, jx⟩⟩
  replace KK := hide (KK.out.trans ka)
  have BY2 : Hid (Boxed V gY 25 (.func (.yield l) #[] #[])) := hide ((ka.2.2 gY GY.out BY.out.lt).trans BY.out)
  have J1 := hide j1
  clear hy1 cy cm kf ka j1 BY J0 R1
  have cm := (KK.out.1.cell (o := 0) hx1 hx2).trans hBx
  have cy := BY2.out.cell
  obtain ⟨fn2, tm2, as2, bd2, hy2, hr2⟩ := yield_at (k := n - 1) (HY.out _ (1, 0) V J1.out (by have := allQ_len2 m; simp only [List.length_append, List.length_nil, List.length_singleton]; omega))
  have R2 := hide hr2
  unfold ptE at hy2
  dsimp only at hy2
  clear hr2
  gi_wp2
  refine ⟨(fun h => by cases h), R2.out.mono ?_⟩
  rintro e V2 ⟨kf, (⟨rfl, j1, ka⟩ | ⟨rfl, jx⟩)⟩
  case inr =>
    clear hy2 cy cm
    gi_wp2
    try rw [Exit.noGoto_ret]
    refine bodyPostM_none rfl ?_
    exact ⟨⟨_, rfl⟩, .inr ⟨_, ⟨_, rfl⟩, jx⟩⟩
  replace KK := hide (KK.out.trans ka)
  have BY3 : Hid (Boxed V2 gY 25 (.func (.yield l) #[] #[])) := hide ((ka.2.2 gY GY.out BY2.out.lt).trans BY2.out)
  replace J1 : Hid (J (allQ 0) V2) := hide j1
  clear hy2 cy cm kf ka j1 BY2 R2
  gi_wp2
  refine wpIn_label ?_
  gi_wp2
  refine wpIn_loop_ghost (fun k a w => ∃ (h : Nat) (ds : List Nat) (z : Int) (t4 t5 t6 t7 t8 t9 t10 t11 t12 t13 t14 t15 t16 t17 t18 t19 t20 t21 t22 t23 t24 t25 t26 t27 t28 t29 t30 t31 t32 : Value), h + k = m ∧ z = (h : Int) + 1 ∧ a = { tmps := #[.func (.yield l) #[] #[], .pointer (some ⟨bm, 0, none⟩), .pointer (some ⟨gY, 0, none⟩), .int .i64 z, t4, t5, t6, t7, t8, t9, t10, t11, t12, t13, t14, t15, t16, t17, t18, t19, t20, t21, t22, t23, t24, t25, t26, t27, t28, t29, t30, t31, t32], defers := mks ds } ∧ inI J h ds lo hi W.heap.size gY 0 W 25 (.func (.yield l) #[] #[]) [] w) m
    ⟨0, [], 1, _, _, _, _, _, _, _, _, _, _, _, _, _, _, _, _, _, _, _, _, _, _, _, _, _, _, _, _, _, by omega, by omega, rfl, by simpa using J1.out, KK.out, BY3.out, ⟨List.nodup_nil, fun D hD => by cases hD⟩, Nat.zero_le _⟩ ?_
  clear J1 KK BY3
  rintro k a u ⟨h, ds, z, t4, t5, t6, t7, t8, t9, t10, t11, t12, t13, t14, t15, t16, t17, t18, t19, t20, t21, t22, t23, t24, t25, t26, t27, t28, t29, t30, t31, t32, hk, rfl, rfl, hJ, hK, hB, hM, _⟩
  have JJ : Hid (J (allQ h) u) := hide (by simpa using hJ)
  have KK := hide hK
  have BY := hide hB
  have MM := hide hM
  clear hJ hK hB hM
  have cm := (KK.out.1.cell (o := 0) hx1 hx2).trans hBx
  by_cases hlt : h < m
  · have hc1 : (h : Int) + 1 ≤ (m : Int) := by omega
    refine wpIn_wide.2 ?_
    go_wp2_with fail
    refine (ofh_any _ u).mono ?_
    rintro e v ⟨bx, rfl, hge, hbx, hb⟩
    have GX : Hid (W.heap.size ≤ bx) := hide (by have := KK.out.2.1; omega)
    have BX := hide hbx
    replace JJ := hide (own_belowF HJ.out JJ.out hb)
    replace KK := hide (KK.out.trans (KA.below hb (Nat.le_trans hsz KK.out.2.1)))
    replace BY : Hid (Boxed v gY 25 (.func (.yield l) #[] #[])) := hide ((hb.block gY BY.out.lt).trans BY.out)
    replace MM := hide (MM.out.below hb)
    have WV : Hid (W.heap.size ≤ v.heap.size) := hide KK.out.2.1
    clear hge hbx hb cm hc1
    go_wp2_with fail
    refine (wpIn_wide (n := n)).1 ?_
    refine wpIn_rangeFunc_ownH rfl (by omega) (gf := 37) (lb := #[.pointer (some ⟨bx, 0, none⟩)]) rfl trivial (enters_of Tryd.func37 (by kernel_rfl) rfl)
      (ofh_stops (n - 1) (by omega) bx bx (bx + 1) (h + 1) (by omega) (by omega) (Nat.le_refl _) (Nat.lt_succ_self _) v BX.out.lt (BX.out.cell.trans (by simp))) (fun p q => p.trans q)
      (fun X r o o' hr _ _ _ j _ h2 => by rw [World.putObj_heap_other (by have := BX.out.lt; omega)]) (Below.refl _ v) (fun _ => rfl)
      (inI J h ds lo hi W.heap.size gY v.heap.size W 25 (.func (.yield l) #[] #[])) (inX Jx h ds W.heap.size)
      (inI_own HJ.out hsz WV.out MM.out.lt) (fun c => inX_own HX.out WV.out MM.out.lt)
      ⟨by simpa using JJ.out, KK.out, BY.out, MM.out, Nat.le_refl _⟩
      (fun p a' Z => ∃ gx, a' = { tmps := #[.func (.yield l) #[] #[], .pointer (some ⟨bm, 0, none⟩), .pointer (some ⟨gY, 0, none⟩), .int .i64 ((h : Int) + 1), .pointer (some ⟨gx, 0, none⟩), t5, t6, t7, t8, t9, t10, t11, t12, t13, t14, t15, t16, t17, t18, t19, t20, .int .i64 ((h : Int) + 1), .int .i64 m, .bool true, t24, t25, .int .i64 ((h : Int) + 1), .func (.func 37) #[] #[.pointer (some ⟨bx, 0, none⟩)], .agg #[.int .i64 p.1, .int .i64 p.2], t29, t30, t31, t32], defers := [] } ∧ Box2 Z gx 27 (.int .i64 p.1) (.int .i64 p.2)) (fun p a' => axP_own a' _ p) ?asg ?bdy ?dn ?st
    case asg =>
      intro r pre x Z K hI hK
      obtain ⟨xa, xb⟩ := x
      unfold ptE
      simp only [List.zip_toArray, List.zip_cons_cons, List.zip_nil_right, List.foldl_toArray', List.size_toArray, List.length_cons, List.length_nil, List.foldl_cons, List.foldl_nil, List.setIfInBounds_toArray, List.set_cons_succ, List.set_cons_zero]
      gi_wp2
      have hI' := (inI_own HJ.out hsz WV.out MM.out.lt).alloc (.cells #[.int .i64 xa, .int .i64 xb] 27) hI
      have b2 := Box2.new Z 27 (.int .i64 xa) (.int .i64 xb)
      have ks := KeepsOthers.alloc Z (.cells #[.int .i64 xa, .int .i64 xb] 27)
      have hb := below_alloc Z (.cells #[.int .i64 xa, .int .i64 xb] 27)
      have hz := hI.2.2.2.2
      have hx := BX.out.lt
      exact hK _ _ (ks.from _) (fun i _ hi => hb.block i (by omega)) hI' ⟨_, rfl, b2⟩
    case bdy =>
      rintro r pre x a' Z _ _ hI ⟨gx, rfl, hbx⟩ hlen
      obtain ⟨xa, xb⟩ := x
      obtain ⟨i1, i2, i3, i4, i5⟩ := hI
      have cy := i3.cell
      have c0 := hbx.cell0
      have c1 := hbx.cell1
      obtain ⟨fn3, tm3, as3, bd3, hy3, hr3⟩ := yield_in (r := r) (k := n - 1 - 1 - 1) (HY.out (allQ h ++ pre) (xa, xb) Z i1 (allQ_lt hlt hlen))
      have R3 := hide hr3
      have I2 := hide i2
      have I3 := hide i3
      have I4 := hide i4
      have I5 := hide i5
      unfold ptE at hy3
      dsimp only at hy3
      clear hr3 i1 i2 i3 i4 i5 hbx hlen
      gi_wp2
      refine ⟨(fun h => by cases h), R3.out.mono ?_⟩
      rintro e V ⟨kf, (⟨rfl, j1, ka⟩ | ⟨rfl, jx⟩)⟩
      · clear hy3 cy c0 c1
        gi_wp2
        exact ⟨⟨kf.size, fun k o hk => kf.same k o (Nat.le_trans WV.out hk)⟩, fun i h1 h2 => ka.2.2 i (by have := GX.out; omega) (by have := BX.out.lt; have := I5.out; omega),
          by rw [← List.append_assoc]; exact j1, I2.out.trans ka, (ka.2.2 gY GY.out I3.out.lt).trans I3.out, I4.out.keeps kf, Nat.le_trans I5.out kf.size⟩
      · clear hy3 cy c0 c1
        gi_wp2
        exact ⟨⟨kf.size, fun k o hk => kf.same k o (Nat.le_trans WV.out hk)⟩, rfl, by rw [← List.append_assoc]; exact jx, I4.out.keeps kf⟩
    case dn =>
      rintro D xs Z hD rfl ⟨i1, i2, i3, i4, i5⟩ hK
      simp only [Exit.inBlock, Exit.then]
      have hh : (h : Int) ≤ 16 := by omega
      have J2 : Hid (J (allQ (h + 1)) Z) := hide (by rw [allQ_succ]; exact i1)
      have I2 := hide i2
      have I3 := hide i3
      have I4 := hide (i4.cons (Nat.le_trans WV.out hD) hK (fun E hE => Nat.lt_of_lt_of_le (MM.out.lt E hE) hD))
      clear i1 i2 i3 i4 i5 hK hD
      go_wp2
      exact ⟨k - 1, by omega, h + 1, D :: ds, (h : Int) + 1 + 1, _, _, _, _, _, _, _, _, _, _, _, _, _, _, _, _, _, _, _, _, _, _, _, _, _, _, _, _, _, by omega, by omega, rfl, by simpa using J2.out, I2.out, I3.out, I4.out, Nat.zero_le _⟩
    case st =>
      rintro D c pre Z hD hp ⟨rfl, jx, mk⟩ hK
      refine wpIn_exit ?_
      simp only [Exit.inBlock, Exit.then]
      rw [if_neg (by decide), if_neg (by decide)]
      show bodyPostM Fence.wide n Tryd.prog Tryd.f21 _ .normal _ _
      exact bodyPostM_marksN HX.out (allQ h ++ pre) rfl (fun V hV => ⟨⟨_, rfl⟩, .inr ⟨_, allQ_in hlt hp, hV⟩⟩) (ds := D :: ds) rfl (mk.cons (Nat.le_trans WV.out hD) hK (fun E hE => Nat.lt_of_lt_of_le (MM.out.lt E hE) hD)) jx
  · have e : h = m := by omega
    subst e
    have hc1 : ¬ ((h : Int) + 1 ≤ (h : Int)) := by omega
    gi_wp2
    exact bodyPostM_marksN HJ.out (allQ h) rfl (fun V hV => ⟨⟨_, rfl⟩, .inl ⟨_, rfl, hV⟩⟩) rfl MM.out JJ.out
end Go.Proofs.YtphohclnendhmaaDoor
