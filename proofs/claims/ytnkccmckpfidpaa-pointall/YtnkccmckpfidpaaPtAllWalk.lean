/- swagelaw06.PointAll answers true whatever is asked, wherever the points are left, and turns nothing that was there. -/
import Derived.Test.YtnkccmckpfidpaaPtAll2
import Derived.Test.YtnkccmckpfidpaaRangeN
import Derived.Test.YtnkccmckpfidpaaCalmV
namespace Go.Proofs.Ytnkccmckpfidpaa
open Go.RowKit Go.Shelf
attribute [local go_sem] Oper.semAt_some

def IW (F : World → Prop) (I : Nat) (pre : List (Int × Int)) (W : World) : Prop := F W ∧ Boxed W I 3 (.int .i64 (pre.length : Nat))
def XW (F : World → Prop) (I : Nat) (ws : List (Int × Int)) (e : Prop) (stop : Int) (b : Nat) (c : Code) (pre : List (Int × Int)) (W : World) : Prop := ¬ (pre <+: ws) ∨ (c = .exit b ∧ e ∧ F W ∧ Boxed W I 3 (.int .i64 stop))
theorem IW.own {F : World → Prop} {C : Nat} (hF : OwnFrom C (fun (_ : Unit) W => F W)) (I : Nat) : OwnFrom C (IW F I) := fun s X Y row hs hg hr => ⟨hF () X Y row hs.1 hg hr, Go.Own.from (boxed_own _ _ (fun pre : List (Int × Int) => .int .i64 (pre.length : Nat))) C s X Y row hs.2 hg hr⟩
theorem XW.own {F : World → Prop} {C : Nat} (hF : OwnFrom C (fun (_ : Unit) W => F W)) (I : Nat) (ws : List (Int × Int)) (e : Prop) (stop : Int) (b : Nat) (c : Code) : OwnFrom C (XW F I ws e stop b c) := fun _ X Y row hs hg hr =>
  hs.elim .inl fun ⟨h1, h2, h3, h4⟩ => .inr ⟨h1, h2, hF () X Y row h3 hg hr, Go.Own.from (boxed_own _ _ (fun _ : Unit => .int .i64 stop)) C () X Y row h4 hg hr⟩
theorem range_pts {ws : List (Int × Int)} {F : World → Prop} {e : Prop} {stop : Int} {I b n : Nat} {g : Operand} {ps : Array Tmp} {assign body : Code} {K : Act → World → Prop} {X : Exit → Act → World → Prop} {a : Act} {w : World} (h1 : 1 ≤ n) {gf : Nat} {lb : Array Value} (hg : a.eval g = .func (.func gf) #[] lb)
    (eg : ∀ args w, (callFunc gf args).run Try.prog w = .ok (.enter gf args) w) {Kq : Nat → World → World → Prop} {w0 : World} (hseq : Yields (n - 1) Try.prog gf lb ptE Kq (fun ys => ys = ws) (fun pre => pre <+: ws) ws.length w0)
    (hKt : ∀ {A B C : World}, Kq (w.heap.size + 2) A B → Kq (w.heap.size + 2) B C → Kq (w.heap.size + 2) A C) (hKb : ∀ (W : World) (o : Obj), w.heap.size + 1 < W.heap.size → Kq (w.heap.size + 2) W (W.putObj (w.heap.size + 1) o)) (hb0 : Below w0.heap.size w0 w) (hps : ∀ x, (ptE x).size = ps.size)
    (hF : OwnFrom w.heap.size (fun (_ : Unit) W => F W)) (h0 : F w) (hI0 : Boxed w I 3 (.int .i64 0)) (f : Nat → (Int × Int) → Act)
    (hassign : ∀ (l : Nat) (pre : List (Int × Int)) (x : Int × Int) (W : World) (K : Act → World → Prop), IW F I pre W → (∀ a' V, KeepsFrom w.heap.size W V → Kq (w.heap.size + 2) W V → IW F I pre V → (∃ gx, a' = f gx x ∧ Box2 V gx 29 (.int .i64 x.1) (.int .i64 x.2)) → K a' V) →
      assign.wpIn (Fence.wide.inRound l) (n - 1 - 1) Try.prog (Exit.then K (fun _ _ _ => False)) { tmps := (ps.zip (ptE x)).foldl (fun t (p, v) => t.setIfInBounds p v) a.tmps, defers := [] } W)
    (hbody : ∀ (l : Nat) (pre : List (Int × Int)) (x : Int × Int) (gx : Nat) (W : World), IW F I pre W → Box2 W gx 29 (.int .i64 x.1) (.int .i64 x.2) → pre.length < ws.length → body.wpIn (Fence.wide.inRound l) (n - 1 - 1) Try.prog
      (ownPostG w.heap.size (Kq (w.heap.size + 2)) (IW F I) (XW F I ws e stop b) (pre ++ [x]) W) (f gx x) W)
    (hnext : ∀ (M : Nat) (W : World) (v : Int), w.heap.size ≤ M → (v = (ws.length : Nat) ∨ (e ∧ v = stop)) → F W → Boxed W I 3 (.int .i64 v) → W.heap[M]? = some (.deferred (some [])) → K { a with defers := { target := .collected M, args := #[] } :: a.defers } W) :
    (Code.rangeFunc g ps assign body).wpIn Fence.wide n Try.prog (Exit.inBlock b (Exit.then K X)) a w := by
  refine range_yields h1 hg eg hseq (Kp := Kq (w.heap.size + 2)) rfl hKt hKb hb0 hps (IW F I) (XW F I ws e stop b) (IW.own hF I) (XW.own hF I ws e stop b) ⟨h0, hI0⟩ (fun x a' W => ∃ gx, a' = f gx x ∧ Box2 W gx 29 (.int .i64 x.1) (.int .i64 x.2)) (fun x a' => axP_own a' _ x) hassign
    (fun l pre x a' W hi ⟨gx, e, hb⟩ hlt => by subst e; exact hbody l pre x gx W hi hb hlt) ?_ ?_
  · rintro D xs W hD rfl ⟨hf, hi⟩ hK
    exact hnext D W _ hD (.inl rfl) hf hi hK
  · rintro D c pre W hD hp (hx | ⟨rfl, he, hf, hi⟩) hK
    · exact absurd hp hx
    · refine wpIn_exit ?_
      have := hnext D W _ hD (.inr ⟨he, rfl⟩) hf hi hK
      simpa [Exit.inBlock, Exit.then] using this
theorem not_pre {pre ws : List (Int × Int)} {x y : Int × Int} (h : ws[pre.length]? = some y) (hn : x ≠ y) : ¬ (pre ++ [x] <+: ws) := fun ⟨t, ht⟩ => hn (by
  have := congrArg (fun l => l[pre.length]?) ht
  simp [h] at this
  exact this)

theorem ko_drew (W : World) : KeepsOthers W W.drew := ⟨Nat.le_refl _, fun _ _ h _ => h⟩
theorem ka_set {lo hi B I : Nat} (W : World) (v : Value) (h1 : hi ≤ I) (h2 : I < B) : KA lo hi B W (W.setCell ⟨I, 0, none⟩ v).drew :=
  ⟨fun i _ q => Below.heap_setCell _ _ _ _ (by show i ≠ I; omega), by show _ ≤ (W.setCell _ _).heap.size; simp [World.setCell], fun i q _ => Below.heap_setCell _ _ _ _ (by show i ≠ I; omega)⟩
theorem bx_drew {W : World} {B : Nat} {t : TypeId} {v : Value} (h : Boxed W B t v) : Boxed W.drew B t v := h
theorem Marks.mono {ds : List Nat} {B C : Nat} {U : World} (h : Marks ds B U) (hC : C ≤ B) : Marks ds C U := ⟨h.1, fun D hD => ⟨Nat.le_trans hC (h.2 D hD).1, (h.2 D hD).2⟩⟩
theorem pts_get {ws : List (Int × Int)} {m : Nat} (h : m < ws.length) : ws[m]? = some (pA ws m, pB ws m) := by
  unfold pA pB
  rw [List.getD_eq_getElem?_getD, List.getElem?_eq_getElem h]
  rfl

set_option maxRecDepth 100000 in
set_option maxHeartbeats 8000000 in
theorem pall_walk (most stop : Int) (w : World) :
    Calls Try.prog 3 #[.int .i64 most, .int .i64 stop] w fun e w' => e = .returned (.bool true) ∧ Below w.heap.size w w' := by
  refine callsIn_marksN (n := 5) Try.func3 rfl ?_
  simp only [Try.ntmps3, List.size_toArray, List.length_cons, List.length_nil, Nat.reduceAdd, Nat.reduceSub, Array.replicate_succ, Array.replicate_zero, List.push_toArray, List.append_toArray, List.nil_append, List.cons_append]
  go_upto_region 1 with fail
  have b1 := below_alloc w (.cells #[.int .i64 stop] 3)
  have b2 := below_alloc (w.alloc (.cells #[.int .i64 stop] 3)) (.cells #[.bool false] 4)
  have BE := hide (boxed_step (Boxed.new w 3 (.int .i64 stop)) b2)
  have BR := hide (Boxed.new (w.alloc (.cells #[.int .i64 stop] 3)) 4 (.bool false))
  simp only [World.size_alloc] at BR
  have HB := hide (b1.trans (b2.mono b1.size))
  clear b1 b2
  generalize (w.alloc (.cells #[.int .i64 stop] 3)).alloc (.cells #[.bool false] 4) = w1 at *
  obtain ⟨E, hE⟩ : ∃ E, E = w.heap.size := ⟨_, rfl⟩
  obtain ⟨R, hR⟩ : ∃ R, R = w.heap.size + 1 := ⟨_, rfl⟩
  have GE := hide (Nat.le_of_eq hE.symm)
  have GR : Hid (w.heap.size ≤ R) := hide (by omega)
  rw [← hE] at BE
  rw [← hR] at BR
  rw [← hR, ← hE]
  clear hE hR
  go_wp2_with fail
  refine (live_any _).mono ?_
  rintro e w2 ⟨rfl, hb⟩
  replace BE := hide (boxed_step BE.out hb)
  replace BR := hide (boxed_step BR.out hb)
  replace HB := hide (HB.out.trans (hb.mono HB.out.size))
  clear hb
  go_wp2_with fail
  refine (rallP most _).mono ?_
  rintro e w3 ⟨v, rfl, hp, hl, hb⟩
  have YS : Hid (∀ (n : Nat), 2 ≤ n → ∀ (bm : Nat) (w : World), Boxed w bm 3 (.int .i64 most) → Yields n Try.prog 9 #[.pointer (some ⟨bm, 0, none⟩)] ptE (KA bm (bm + 1)) (fun ys => ys = allP most) (fun pre => pre <+: allP most) (allP most).length w) := hide (fun n h bm w hb => all_yields n h bm most w hb)
  generalize allP most = ws at hp hl YS
  have PW := hide hp
  have LW := hide hl
  obtain ⟨sa, sc, rfl, _, _, _⟩ := hp
  clear hl
  replace BE := hide (boxed_step BE.out hb)
  replace BR := hide (boxed_step BR.out hb)
  replace HB := hide (HB.out.trans (hb.mono HB.out.size))
  clear hb
  go_upto_region 4 with fail
  have hb := below_alloc w3 (.cells #[.slice sa ws.length sc] 23)
  have BG := hide (Boxed.new w3 23 (.slice sa ws.length sc))
  replace BE := hide (boxed_step BE.out hb)
  replace BR := hide (boxed_step BR.out hb)
  replace PW := hide (PW.out.below hb)
  replace HB := hide (HB.out.trans (hb.mono HB.out.size))
  clear hb
  generalize w3.alloc (.cells #[.slice sa ws.length sc] 23) = w4 at *
  obtain ⟨G, hG⟩ : ∃ G, G = w3.heap.size := ⟨_, rfl⟩
  rw [← hG] at BG
  rw [← hG]
  clear hG
  go_wp2_with fail
  refine (all_any most _).mono ?_
  rintro e w5 ⟨bx, rfl, _, hbx, hb⟩
  have BX := hide hbx
  clear hbx
  replace BE := hide (boxed_step BE.out hb)
  replace BR := hide (boxed_step BR.out hb)
  replace BG := hide (boxed_step BG.out hb)
  replace PW := hide (PW.out.below hb)
  replace HB := hide (HB.out.trans (hb.mono HB.out.size))
  clear hb
  have hq := eql_func
  go_wp2_with fail
  refine (live_any _).mono ?_
  rintro e w6 ⟨rfl, hb⟩
  clear hq
  replace BE := hide (boxed_step BE.out hb)
  replace BR := hide (boxed_step BR.out hb)
  replace BG := hide (boxed_step BG.out hb)
  replace BX := hide (boxed_step BX.out hb)
  replace PW := hide (PW.out.below hb)
  replace HB := hide (HB.out.trans (hb.mono HB.out.size))
  clear hb
  go_upto_region 8 with fail
  have hb := below_alloc w6 (.cells #[.int .i64 0] 3)
  have BD := hide (Boxed.new w6 3 (.int .i64 0))
  have HW := hide hb
  clear hb
  generalize w6.alloc (.cells #[.int .i64 0] 3) = w7 at *
  obtain ⟨D, hD⟩ : ∃ D, D = w6.heap.size := ⟨_, rfl⟩
  have HD : Hid (w6.heap.size ≤ D) := hide (Nat.le_of_eq hD.symm)
  rw [← hD] at BD
  rw [← hD]
  clear hD
  refine (wpIn_wide (n := 5)).1 ?_
  refine wpIn_loop_ghost (fun k a z => ∃ (rd : Int) (ds : List Nat) (D : Nat) (t8 t9 t10 t11 t12 t13 t14 t15 t16 t17 t18 t19 t20 t21 t22 t23 t24 t25 t26 t27 t28 t29 t30 t31 t32 t33 t34 t35 t36 t37 t38 t39 t40 t41 t42 t43 t44 t45 t46 t47 t48 t49 t50 t51 t52 t53 t54 t55 t56 t57 t58 t59 t60 t61 t62 t63 : Value), rd + k = 2 ∧ 0 ≤ rd ∧ a = { tmps := #[.int .i64 most, .int .i64 stop, undef, .pointer (some ⟨E, 0, none⟩), .pointer (some ⟨R, 0, none⟩), .pointer (some ⟨G, 0, none⟩), .func (.func 9) #[] #[.pointer (some ⟨bx, 0, none⟩)], .pointer (some ⟨D, 0, none⟩), t8, t9, t10, t11, t12, t13, t14, t15, t16, t17, t18, t19, t20, t21, t22, t23, t24, t25, t26, t27, t28, t29, t30, t31, t32, t33, t34, t35, t36, t37, t38, t39, t40, t41, t42, t43, t44, t45, t46, t47, t48, t49, t50, t51, t52, t53, t54, t55, t56, t57, t58, t59, t60, t61, t62, t63], defers := mks ds } ∧ Below w6.heap.size w6 z ∧ Boxed z D 3 (.int .i64 rd) ∧ w6.heap.size ≤ D ∧ Marks ds w6.heap.size z) 2
    ⟨0, [], D, _, _, _, _, _, _, _, _, _, _, _, _, _, _, _, _, _, _, _, _, _, _, _, _, _, _, _, _, _, _, _, _, _, _, _, _, _, _, _, _, _, _, _, _, _, _, _, _, _, _, _, _, _, _, _, _, by omega, by omega, rfl, HW.out, BD.out, HD.out, List.nodup_nil, fun D hD => by cases hD⟩ ?_
  clear BD HD HW
  rintro k a z ⟨rd, ds, D, t8, t9, t10, t11, t12, t13, t14, t15, t16, t17, t18, t19, t20, t21, t22, t23, t24, t25, t26, t27, t28, t29, t30, t31, t32, t33, t34, t35, t36, t37, t38, t39, t40, t41, t42, t43, t44, t45, t46, t47, t48, t49, t50, t51, t52, t53, t54, t55, t56, t57, t58, t59, t60, t61, t62, t63, hk, h0, rfl, hz, hbd, hgd, hm⟩
  have BD := hide hbd
  have HZ := hide hz
  have MM := hide hm
  have GD := hide hgd
  clear hz hbd hgd hm
  by_cases hrd : rd < 2
  · refine wpIn_wide.2 ?_
    have d0 := BD.out.cell
    go_upto_region 11 with fail
    clear d0
    have hb := below_alloc z (.cells #[.int .i64 0] 3)
    have BI := hide (Boxed.new z 3 (.int .i64 0))
    have LD := hide BD.out.lt
    have GZ := hide HZ.out.size
    replace BD := hide (boxed_step BD.out hb)
    replace HZ := hide (HZ.out.trans (hb.mono HZ.out.size))
    replace MM := hide (MM.out.below hb)
    clear hb
    generalize z.alloc (.cells #[.int .i64 0] 3) = z1 at *
    obtain ⟨I, hI⟩ : ∃ I, I = z.heap.size := ⟨_, rfl⟩
    have DI : Hid (D < I) := hide (by have := LD.out; omega)
    have GI : Hid (w6.heap.size ≤ I) := hide (by have := GZ.out; omega)
    rw [← hI] at BI
    rw [← hI]
    clear hI LD GZ
    have LI := hide BI.out.lt
    have LX : Hid (bx + 1 ≤ w6.heap.size) := hide BX.out.lt
    have MLT := hide MM.out.lt
    have OWN : Hid (OwnFrom z1.heap.size (fun (_ : Unit) Z => Below w6.heap.size w6 Z ∧ Boxed Z D 3 (.int .i64 rd) ∧ Marks ds w6.heap.size Z)) := hide (OwnFrom.and (below_own HZ.out.size (Nat.le_refl _)) (OwnFrom.and (Go.Own.from (boxed_own _ _ (fun _ => .int .i64 rd)) _) (marks_own MLT.out)))
    go_wp2_with fail
    refine (wpIn_wide (n := 5)).1 ?_
    refine range_pts (ws := ws) (F := fun Z => Below w6.heap.size w6 Z ∧ Boxed Z D 3 (.int .i64 rd) ∧ Marks ds w6.heap.size Z) (e := rd = 0) (stop := stop) (I := I) (by omega) (gf := 9) (lb := #[.pointer (some ⟨bx, 0, none⟩)]) rfl (enters_of Try.func9 (by kernel_rfl) rfl)
      (YS.out 4 (by omega) bx w6 BX.out) KA.trans (fun W o hW => ⟨fun i _ h2 => World.putObj_heap_other (by have := LX.out; have := HZ.out.size; omega), by simp [World.putObj], fun i h1 _ => World.putObj_heap_other (by omega)⟩) HZ.out (fun _ => rfl) OWN.out ⟨HZ.out, BD.out, MM.out⟩ BI.out (fun gx p => { tmps := #[.int .i64 most, .int .i64 stop, undef, .pointer (some ⟨E, 0, none⟩), .pointer (some ⟨R, 0, none⟩), .pointer (some ⟨G, 0, none⟩), .func (.func 9) #[] #[.pointer (some ⟨bx, 0, none⟩)], .pointer (some ⟨D, 0, none⟩), .pointer (some ⟨I, 0, none⟩), .pointer (some ⟨gx, 0, none⟩), t10, t11, t12, t13, t14, t15, t16, t17, t18, t19, t20, t21, .int .i64 rd, .bool true, t24, t25, .func (.func 9) #[] #[.pointer (some ⟨bx, 0, none⟩)], .agg #[.int .i64 p.1, .int .i64 p.2], t28, t29, t30, t31, t32, t33, t34, t35, t36, t37, t38, t39, t40, t41, t42, t43, t44, t45, t46, t47, t48, t49, t50, t51, t52, t53, t54, t55, t56, t57, t58, t59, t60, t61, t62, t63], defers := [] }) ?asg ?bdy ?nx
    case asg =>
      intro l pre x W K hI hK
      obtain ⟨xa, xb⟩ := x
      unfold ptE
      simp only [List.zip_toArray, List.zip_cons_cons, List.zip_nil_right, List.foldl_toArray', List.size_toArray, List.length_cons, List.length_nil, List.foldl_cons, List.foldl_nil, List.setIfInBounds_toArray, List.set_cons_succ, List.set_cons_zero]
      gi_wp2
      have hI' := (IW.own OWN.out I).alloc (.cells #[.int .i64 xa, .int .i64 xb] 29) hI
      have b2 := Box2.new W 29 (.int .i64 xa) (.int .i64 xb)
      have ks := KeepsOthers.alloc W (.cells #[.int .i64 xa, .int .i64 xb] 29)
      have hb := below_alloc W (.cells #[.int .i64 xa, .int .i64 xb] 29)
      exact hK _ _ (ks.from _) (KA.below hb (Nat.le_trans LX.out hI.1.1.size)) hI' ⟨_, rfl, b2⟩
    case bdy =>
      rintro l pre x gx W ⟨⟨f1, f2, f3⟩, hi⟩ hbx hlt
      obtain ⟨xa, xb⟩ := x
      have F1 := hide f1
      have F2 := hide f2
      have F3 := hide f3
      have HI := hide hi
      have cI := hi.cell
      have fI := hi.frozen
      have cG := (show Boxed W G 23 _ from (f1.block G BG.out.lt).trans BG.out).cell
      have cE := (show Boxed W E 3 _ from (f1.block E BE.out.lt).trans BE.out).cell
      have cD := f2.cell
      have cR := (show Boxed W R 4 _ from (f1.block R BR.out.lt).trans BR.out).cell
      have fR := (show Boxed W R 4 _ from (f1.block R BR.out.lt).trans BR.out).frozen
      have x0 := hbx.cell0
      have x1 := hbx.cell1
      rcases (PW.out.below f1).cases with ⟨e, _⟩ | ⟨_, b, off, cap, e, _, _, hc⟩
      · exact absurd hlt (by rw [e]; simp)
      have hca := hc _ hlt
      have y0 := hca.cell0
      have y1 := hca.cell1
      have NP := hide (fun (h : ((xa, xb) : Int × Int) ≠ (pA ws pre.length, pB ws pre.length)) => not_pre (pts_get hlt) h)
      simp only [Value.slice.injEq] at e
      rw [e.1] at cG
      clear hc hca e f1 f2 f3 hi hbx
      generalize pA ws pre.length = ya at y0 NP
      generalize pB ws pre.length = yb at y1 NP
      obtain ⟨m, hm⟩ : ∃ m, m = pre.length := ⟨_, rfl⟩
      have HM := hide hm
      rw [← hm] at cI y0 y1 hlt
      obtain ⟨nn, hnn⟩ : ∃ nn, nn = ws.length := ⟨_, rfl⟩
      have nb : nn ≤ 10000 := by rw [hnn]; exact LW.out
      rw [← hnn] at cG hlt
      clear hm hnn
      have nD : D ≠ I := by have := DI.out; omega
      have nE : E ≠ I := by have := BE.out.lt; have := GI.out; omega
      have g0 : ¬ (nn : Int) ≤ (m : Int) := by omega
      have g1 : ¬ nn ≤ m := by omega
      by_cases hxa : xa = ya
      · by_cases hxb : xb = yb
        · subst hxa hxb
          gi_wp2
          refine wp_calmV (n := 12) (by kernel_rfl) (by kernel_rfl) rfl rfl ?_
          refine CalmV.take (i := 0) (v := ?_) (a' := ?_) (l' := #[true, false, false, false, false, false, false, false, false, false, false, false]) (d := some 28) rfl (by kernel_rfl) (by kernel_rfl) (by kernel_rfl) rfl ?_ rfl rfl ?_ ?_
          rotate_left
          · go_simp; try rfl
          rotate_left
          · simp only [Act.put]; exact rfl
          refine CalmV.take (i := 1) (v := ?_) (a' := ?_) (l' := #[true, true, false, false, false, false, false, false, false, false, false, false]) (d := some 29) rfl (by kernel_rfl) (by kernel_rfl) (by kernel_rfl) rfl ?_ rfl rfl ?_ ?_
          rotate_left
          · go_simp; try rfl
          rotate_left
          · simp only [Act.put]; exact rfl
          refine CalmV.take (i := 2) (v := ?_) (a' := ?_) (l' := #[true, true, true, false, false, false, false, false, false, false, false, false]) (d := some 30) rfl (by kernel_rfl) (by kernel_rfl) (by kernel_rfl) rfl ?_ rfl rfl ?_ ?_
          rotate_left
          · go_simp; try rfl
          rotate_left
          · simp only [Act.put]; exact rfl
          refine CalmV.take (i := 3) (v := ?_) (a' := ?_) (l' := #[true, true, true, true, false, false, false, false, false, false, false, false]) (d := some 31) rfl (by kernel_rfl) (by kernel_rfl) (by kernel_rfl) rfl ?_ rfl rfl ?_ ?_
          rotate_left
          · go_simp; try rfl
          rotate_left
          · simp only [Act.put]; exact rfl
          refine CalmV.take (i := 4) (v := ?_) (a' := ?_) (l' := #[true, true, true, true, true, false, false, false, false, false, false, false]) (d := some 32) rfl (by kernel_rfl) (by kernel_rfl) (by kernel_rfl) rfl ?_ rfl rfl ?_ ?_
          rotate_left
          · go_simp; try rfl
          rotate_left
          · simp only [Act.put]; exact rfl
          refine CalmV.take (i := 5) (v := ?_) (a' := ?_) (l' := #[true, true, true, true, true, true, false, false, false, false, false, false]) (d := some 33) rfl (by kernel_rfl) (by kernel_rfl) (by kernel_rfl) (by kernel_rfl) ?_ rfl rfl ?_ ?_
          rotate_left
          · go_simp; try rfl
          rotate_left
          · simp only [Act.put]; exact rfl
          refine CalmV.take (i := 6) (v := ?_) (a' := ?_) (l' := #[true, true, true, true, true, true, true, false, false, false, false, false]) (d := some 34) rfl (by kernel_rfl) (by kernel_rfl) (by kernel_rfl) (by kernel_rfl) ?_ rfl rfl ?_ ?_
          rotate_left
          · go_simp; try rfl
          rotate_left
          · simp only [Act.put]; exact rfl
          refine CalmV.take (i := 7) (v := ?_) (a' := ?_) (l' := #[true, true, true, true, true, true, true, true, false, false, false, false]) (d := some 35) rfl (by kernel_rfl) (by kernel_rfl) (by kernel_rfl) (by kernel_rfl) ?_ rfl rfl ?_ ?_
          rotate_left
          · go_simp; try rfl
          rotate_left
          · simp only [Act.put]; exact rfl
          refine CalmV.take (i := 8) (v := ?_) (a' := ?_) (l' := #[true, true, true, true, true, true, true, true, true, false, false, false]) (d := some 36) rfl (by kernel_rfl) (by kernel_rfl) (by kernel_rfl) (by kernel_rfl) ?_ rfl rfl ?_ ?_
          rotate_left
          · go_simp; try rfl
          rotate_left
          · simp only [Act.put]; exact rfl
          refine CalmV.take (i := 9) (v := ?_) (a' := ?_) (l' := #[true, true, true, true, true, true, true, true, true, true, false, false]) (d := some 37) rfl (by kernel_rfl) (by kernel_rfl) (by kernel_rfl) (by kernel_rfl) ?_ rfl rfl ?_ ?_
          rotate_left
          · go_simp; try rfl
          rotate_left
          · simp only [Act.put]; exact rfl
          refine CalmV.take (i := 10) (v := ?_) (a' := ?_) (l' := #[true, true, true, true, true, true, true, true, true, true, true, false]) (d := some 38) rfl (by kernel_rfl) (by kernel_rfl) (by kernel_rfl) (by kernel_rfl) ?_ rfl rfl ?_ ?_
          rotate_left
          · go_simp; try rfl
          rotate_left
          · simp only [Act.put]; exact rfl
          refine CalmV.take (i := 11) (v := ?_) (a' := ?_) (l' := #[true, true, true, true, true, true, true, true, true, true, true, true]) (d := some 39) rfl (by kernel_rfl) (by kernel_rfl) (by kernel_rfl) rfl ?_ rfl rfl ?_ ?_
          rotate_left
          · go_simp; try rfl
          rotate_left
          · simp only [Act.put]; exact rfl
          refine CalmV.done (by kernel_rfl) ?_
          try simp only [List.setIfInBounds_toArray, List.set_cons_succ, List.set_cons_zero]
          clear y0 y1 x0 x1 cG
          by_cases hr0 : rd = 0
          · by_cases hs : (m : Int) + 1 = stop
            · subst hs hr0
              gi_wp2
              exact ⟨((KeepsOthers.setCell _ _ _).trans (ko_drew _)).from _, .inr ⟨rfl, trivial, ⟨(F1.out.setCell (p := ⟨I, 0, none⟩) GI.out _).drew, F2.out.other nD _, F3.out.keeps (((KeepsOthers.setCell _ _ _).trans (ko_drew _)).from _)⟩, HI.out.set _⟩⟩
            · have hs' : ((m : Int) + 1 == stop) = false := by simp; exact hs
              subst hr0
              gi_wp2
              exact ⟨((KeepsOthers.setCell _ _ _).trans (ko_drew _)).from _, ka_set W _ (Nat.le_trans LX.out GI.out) (by have := LI.out; omega), ⟨(F1.out.setCell (p := ⟨I, 0, none⟩) GI.out _).drew, F2.out.other nD _, F3.out.keeps (((KeepsOthers.setCell _ _ _).trans (ko_drew _)).from _)⟩, by rw [List.length_append, List.length_singleton, ← HM.out]; exact HI.out.set _⟩
          · have hr1 : rd = 1 := by omega
            subst hr1
            gi_wp2
            exact ⟨((KeepsOthers.setCell _ _ _).trans (ko_drew _)).from _, ka_set W _ (Nat.le_trans LX.out GI.out) (by have := LI.out; omega), ⟨(F1.out.setCell (p := ⟨I, 0, none⟩) GI.out _).drew, F2.out.other nD _, F3.out.keeps (((KeepsOthers.setCell _ _ _).trans (ko_drew _)).from _)⟩, by rw [List.length_append, List.length_singleton, ← HM.out]; exact HI.out.set _⟩
        · have q : (xb == yb) = false := by simp [hxb]
          subst hxa
          gi_wp2
          refine wp_calmV (n := 12) (by kernel_rfl) (by kernel_rfl) rfl rfl ?_
          refine CalmV.take (i := 0) (v := ?_) (a' := ?_) (l' := #[true, false, false, false, false, false, false, false, false, false, false, false]) (d := some 28) rfl (by kernel_rfl) (by kernel_rfl) (by kernel_rfl) rfl ?_ rfl rfl ?_ ?_
          rotate_left
          · go_simp; try rfl
          rotate_left
          · simp only [Act.put]; exact rfl
          refine CalmV.take (i := 1) (v := ?_) (a' := ?_) (l' := #[true, true, false, false, false, false, false, false, false, false, false, false]) (d := some 29) rfl (by kernel_rfl) (by kernel_rfl) (by kernel_rfl) rfl ?_ rfl rfl ?_ ?_
          rotate_left
          · go_simp; try rfl
          rotate_left
          · simp only [Act.put]; exact rfl
          refine CalmV.take (i := 2) (v := ?_) (a' := ?_) (l' := #[true, true, true, false, false, false, false, false, false, false, false, false]) (d := some 30) rfl (by kernel_rfl) (by kernel_rfl) (by kernel_rfl) rfl ?_ rfl rfl ?_ ?_
          rotate_left
          · go_simp; try rfl
          rotate_left
          · simp only [Act.put]; exact rfl
          refine CalmV.take (i := 3) (v := ?_) (a' := ?_) (l' := #[true, true, true, true, false, false, false, false, false, false, false, false]) (d := some 31) rfl (by kernel_rfl) (by kernel_rfl) (by kernel_rfl) rfl ?_ rfl rfl ?_ ?_
          rotate_left
          · go_simp; try rfl
          rotate_left
          · simp only [Act.put]; exact rfl
          refine CalmV.take (i := 4) (v := ?_) (a' := ?_) (l' := #[true, true, true, true, true, false, false, false, false, false, false, false]) (d := some 32) rfl (by kernel_rfl) (by kernel_rfl) (by kernel_rfl) rfl ?_ rfl rfl ?_ ?_
          rotate_left
          · go_simp; try rfl
          rotate_left
          · simp only [Act.put]; exact rfl
          refine CalmV.take (i := 5) (v := ?_) (a' := ?_) (l' := #[true, true, true, true, true, true, false, false, false, false, false, false]) (d := some 33) rfl (by kernel_rfl) (by kernel_rfl) (by kernel_rfl) (by kernel_rfl) ?_ rfl rfl ?_ ?_
          rotate_left
          · go_simp; try rfl
          rotate_left
          · simp only [Act.put]; exact rfl
          refine CalmV.take (i := 6) (v := ?_) (a' := ?_) (l' := #[true, true, true, true, true, true, true, false, false, false, false, false]) (d := some 34) rfl (by kernel_rfl) (by kernel_rfl) (by kernel_rfl) (by kernel_rfl) ?_ rfl rfl ?_ ?_
          rotate_left
          · go_simp; try rfl
          rotate_left
          · simp only [Act.put]; exact rfl
          refine CalmV.take (i := 7) (v := ?_) (a' := ?_) (l' := #[true, true, true, true, true, true, true, true, false, false, false, false]) (d := some 35) rfl (by kernel_rfl) (by kernel_rfl) (by kernel_rfl) (by kernel_rfl) ?_ rfl rfl ?_ ?_
          rotate_left
          · go_simp; try rfl
          rotate_left
          · simp only [Act.put]; exact rfl
          refine CalmV.take (i := 8) (v := ?_) (a' := ?_) (l' := #[true, true, true, true, true, true, true, true, true, false, false, false]) (d := some 36) rfl (by kernel_rfl) (by kernel_rfl) (by kernel_rfl) (by kernel_rfl) ?_ rfl rfl ?_ ?_
          rotate_left
          · go_simp; try rfl
          rotate_left
          · simp only [Act.put]; exact rfl
          refine CalmV.take (i := 9) (v := ?_) (a' := ?_) (l' := #[true, true, true, true, true, true, true, true, true, true, false, false]) (d := some 37) rfl (by kernel_rfl) (by kernel_rfl) (by kernel_rfl) (by kernel_rfl) ?_ rfl rfl ?_ ?_
          rotate_left
          · go_simp; try rfl
          rotate_left
          · simp only [Act.put]; exact rfl
          refine CalmV.take (i := 10) (v := ?_) (a' := ?_) (l' := #[true, true, true, true, true, true, true, true, true, true, true, false]) (d := some 38) rfl (by kernel_rfl) (by kernel_rfl) (by kernel_rfl) (by kernel_rfl) ?_ rfl rfl ?_ ?_
          rotate_left
          · go_simp; try rfl
          rotate_left
          · simp only [Act.put]; exact rfl
          refine CalmV.take (i := 11) (v := ?_) (a' := ?_) (l' := #[true, true, true, true, true, true, true, true, true, true, true, true]) (d := some 39) rfl (by kernel_rfl) (by kernel_rfl) (by kernel_rfl) rfl ?_ rfl rfl ?_ ?_
          rotate_left
          · go_simp; try rfl
          rotate_left
          · simp only [Act.put]; exact rfl
          refine CalmV.done (by kernel_rfl) ?_
          try simp only [List.setIfInBounds_toArray, List.set_cons_succ, List.set_cons_zero]
          clear y0 y1 x0 x1 cG
          gi_wp2
          exact ⟨((KeepsOthers.setCell _ _ _).trans (ko_drew _)).from _, .inl (NP.out (by simp [hxb]))⟩
      · have q : (xa == ya) = false := by simp [hxa]
        gi_wp2
        refine wp_calmV (n := 12) (by kernel_rfl) (by kernel_rfl) rfl rfl ?_
        refine CalmV.take (i := 0) (v := ?_) (a' := ?_) (l' := #[true, false, false, false, false, false, false, false, false, false, false, false]) (d := some 28) rfl (by kernel_rfl) (by kernel_rfl) (by kernel_rfl) rfl ?_ rfl rfl ?_ ?_
        rotate_left
        · go_simp; try rfl
        rotate_left
        · simp only [Act.put]; exact rfl
        refine CalmV.take (i := 1) (v := ?_) (a' := ?_) (l' := #[true, true, false, false, false, false, false, false, false, false, false, false]) (d := some 29) rfl (by kernel_rfl) (by kernel_rfl) (by kernel_rfl) rfl ?_ rfl rfl ?_ ?_
        rotate_left
        · go_simp; try rfl
        rotate_left
        · simp only [Act.put]; exact rfl
        refine CalmV.take (i := 2) (v := ?_) (a' := ?_) (l' := #[true, true, true, false, false, false, false, false, false, false, false, false]) (d := some 30) rfl (by kernel_rfl) (by kernel_rfl) (by kernel_rfl) rfl ?_ rfl rfl ?_ ?_
        rotate_left
        · go_simp; try rfl
        rotate_left
        · simp only [Act.put]; exact rfl
        refine CalmV.take (i := 3) (v := ?_) (a' := ?_) (l' := #[true, true, true, true, false, false, false, false, false, false, false, false]) (d := some 31) rfl (by kernel_rfl) (by kernel_rfl) (by kernel_rfl) rfl ?_ rfl rfl ?_ ?_
        rotate_left
        · go_simp; try rfl
        rotate_left
        · simp only [Act.put]; exact rfl
        refine CalmV.take (i := 4) (v := ?_) (a' := ?_) (l' := #[true, true, true, true, true, false, false, false, false, false, false, false]) (d := some 32) rfl (by kernel_rfl) (by kernel_rfl) (by kernel_rfl) rfl ?_ rfl rfl ?_ ?_
        rotate_left
        · go_simp; try rfl
        rotate_left
        · simp only [Act.put]; exact rfl
        refine CalmV.take (i := 5) (v := ?_) (a' := ?_) (l' := #[true, true, true, true, true, true, false, false, false, false, false, false]) (d := some 33) rfl (by kernel_rfl) (by kernel_rfl) (by kernel_rfl) (by kernel_rfl) ?_ rfl rfl ?_ ?_
        rotate_left
        · go_simp; try rfl
        rotate_left
        · simp only [Act.put]; exact rfl
        refine CalmV.take (i := 6) (v := ?_) (a' := ?_) (l' := #[true, true, true, true, true, true, true, false, false, false, false, false]) (d := some 34) rfl (by kernel_rfl) (by kernel_rfl) (by kernel_rfl) (by kernel_rfl) ?_ rfl rfl ?_ ?_
        rotate_left
        · go_simp; try rfl
        rotate_left
        · simp only [Act.put]; exact rfl
        refine CalmV.take (i := 7) (v := ?_) (a' := ?_) (l' := #[true, true, true, true, true, true, true, true, false, false, false, false]) (d := some 35) rfl (by kernel_rfl) (by kernel_rfl) (by kernel_rfl) (by kernel_rfl) ?_ rfl rfl ?_ ?_
        rotate_left
        · go_simp; try rfl
        rotate_left
        · simp only [Act.put]; exact rfl
        refine CalmV.take (i := 8) (v := ?_) (a' := ?_) (l' := #[true, true, true, true, true, true, true, true, true, false, false, false]) (d := some 36) rfl (by kernel_rfl) (by kernel_rfl) (by kernel_rfl) (by kernel_rfl) ?_ rfl rfl ?_ ?_
        rotate_left
        · go_simp; try rfl
        rotate_left
        · simp only [Act.put]; exact rfl
        refine CalmV.take (i := 9) (v := ?_) (a' := ?_) (l' := #[true, true, true, true, true, true, true, true, true, true, false, false]) (d := some 37) rfl (by kernel_rfl) (by kernel_rfl) (by kernel_rfl) (by kernel_rfl) ?_ rfl rfl ?_ ?_
        rotate_left
        · go_simp; try rfl
        rotate_left
        · simp only [Act.put]; exact rfl
        refine CalmV.take (i := 10) (v := ?_) (a' := ?_) (l' := #[true, true, true, true, true, true, true, true, true, true, true, false]) (d := some 38) rfl (by kernel_rfl) (by kernel_rfl) (by kernel_rfl) (by kernel_rfl) ?_ rfl rfl ?_ ?_
        rotate_left
        · go_simp; try rfl
        rotate_left
        · simp only [Act.put]; exact rfl
        refine CalmV.take (i := 11) (v := ?_) (a' := ?_) (l' := #[true, true, true, true, true, true, true, true, true, true, true, true]) (d := some 39) rfl (by kernel_rfl) (by kernel_rfl) (by kernel_rfl) rfl ?_ rfl rfl ?_ ?_
        rotate_left
        · go_simp; try rfl
        rotate_left
        · simp only [Act.put]; exact rfl
        refine CalmV.done (by kernel_rfl) ?_
        try simp only [List.setIfInBounds_toArray, List.set_cons_succ, List.set_cons_zero]
        clear y0 y1 x0 x1 cG
        gi_wp2
        exact ⟨((KeepsOthers.setCell _ _ _).trans (ko_drew _)).from _, .inl (NP.out (by simp [hxa]))⟩
    case nx =>
      rintro M W v hM hv ⟨f1, f2, f3⟩ hi hK
      have F1 := hide f1
      have F3 := hide (f3.cons (Nat.le_trans HZ.out.size hM) hK (fun E hE => Nat.lt_of_lt_of_le (MLT.out E hE) hM))
      have cI := hi.cell
      have cG := (show Boxed W G 23 _ from (f1.block G BG.out.lt).trans BG.out).cell
      have cE := (show Boxed W E 3 _ from (f1.block E BE.out.lt).trans BE.out).cell
      have cD := f2.cell
      have HV := hide hv
      have nb : ws.length ≤ 10000 := LW.out
      clear f1 f2 f3 hi hK hv
      obtain ⟨nn, hnn⟩ : ∃ nn, nn = ws.length := ⟨_, rfl⟩
      rw [← hnn] at cG nb
      by_cases hvn : v = (nn : Int)
      · subst hvn
        clear HV hnn
        rcases (show rd = 0 ∨ rd = 1 from by omega) with rfl | rfl
        · go_wp2
          have bn := Boxed.new W 3 (.int .i64 1)
          have hb := below_alloc W (.cells #[.int .i64 1] 3)
          exact ⟨k - 1, by omega, 1, M :: ds, W.heap.size, _, _, _, _, _, _, _, _, _, _, _, _, _, _, _, _, _, _, _, _, _, _, _, _, _, _, _, _, _, _, _, _, _, _, _, _, _, _, _, _, _, _, _, _, _, _, _, _, _, _, _, _, _, _, _, _, by omega, by omega, rfl, F1.out.alloc F1.out.size _, bn, F1.out.size, F3.out.below hb⟩
        · go_wp2
          have bn := Boxed.new W 3 (.int .i64 2)
          have hb := below_alloc W (.cells #[.int .i64 2] 3)
          exact ⟨k - 1, by omega, 2, M :: ds, W.heap.size, _, _, _, _, _, _, _, _, _, _, _, _, _, _, _, _, _, _, _, _, _, _, _, _, _, _, _, _, _, _, _, _, _, _, _, _, _, _, _, _, _, _, _, _, _, _, _, _, _, _, _, _, _, _, _, _, by omega, by omega, rfl, F1.out.alloc F1.out.size _, bn, F1.out.size, F3.out.below hb⟩
      · have hvn' : (v != (nn : Int)) = true := by simpa using hvn
        obtain ⟨hr0, hvs⟩ : rd = 0 ∧ v = stop := HV.out.elim (fun h => absurd (by rw [hnn]; exact h) hvn) id
        subst hr0 hvs
        clear HV hnn hvn
        go_wp2
        have bn := Boxed.new W 3 (.int .i64 1)
        have hb := below_alloc W (.cells #[.int .i64 1] 3)
        exact ⟨k - 1, by omega, 1, M :: ds, W.heap.size, _, _, _, _, _, _, _, _, _, _, _, _, _, _, _, _, _, _, _, _, _, _, _, _, _, _, _, _, _, _, _, _, _, _, _, _, _, _, _, _, _, _, _, _, _, _, _, _, _, _, _, _, _, _, _, _, by omega, by omega, rfl, F1.out.alloc F1.out.size _, bn, F1.out.size, F3.out.below hb⟩
  · have e : rd = 2 := by omega
    subst e
    refine wpIn_wide.2 ?_
    have d0 := BD.out.cell
    have r0 := (show Boxed z R 4 _ from (HZ.out.block R BR.out.lt).trans BR.out).cell
    have rf := (show Boxed z R 4 _ from (HZ.out.block R BR.out.lt).trans BR.out).frozen
    go_wp2
    refine leaves_bool rfl _ w R true rfl ds _ ((MM.out.mono HB.out.size).keeps ((KeepsOthers.setCell _ _ _).from _)) ((show Boxed z R 4 _ from (HZ.out.block R BR.out.lt).trans BR.out).set _) ?_
    exact (HB.out.trans (HZ.out.mono HB.out.size)).setCell (p := ⟨R, 0, none⟩) GR.out _
end Go.Proofs.Ytnkccmckpfidpaa
