/- share.Twice and its iterators: the instructions whose key came up ahead of them. -/
import Derived.Test.YtclopelniopjkaaShTh
namespace Go.Proofs.Ytclopelniopjkaa
open Go.RowKit Go.Shelf
attribute [local go_sem] Oper.semAt_some

/-- what is told of an instruction whose key came up: its number, the first one -/
abbrev Tw := Nat × Int
def twF (x : Tl) : Option Tw := if x.2.2 < (x.1 : Int) then some (x.1, x.2.2) else none
def twf (l : List Tl) : List Tw := l.filterMap twF
theorem twf_app (l : List Tl) (x : Tl) : twf (l ++ [x]) = twf l ++ (twF x).toList := by
  unfold twf
  rw [List.filterMap_append]
  cases h : twF x <;> simp [h]
theorem twf_pre {l m : List Tl} (h : l <+: m) : twf l <+: twf m := by
  obtain ⟨t, rfl⟩ := h
  unfold twf
  rw [List.filterMap_append]
  exact List.prefix_append _ _
def encW (x : Tw) : Array Value := #[.int .i64 (x.1 : Nat), .int .i64 x.2]

/-- what Twice answers -/
def TwR (w w' : World) (e : Ending) (p : Pg) : Prop := if rightB p = true then ∃ bx ca cc oa oc, e = .returned (.func (.func 28) #[] #[.pointer (some ⟨bx, 0, none⟩)]) ∧ w.heap.size ≤ bx ∧
    Box4 w' bx 25 (.int .i64 p.ins) (.int .i64 p.regs) (.slice ca p.code.length cc) (.slice oa p.outs.length oc) ∧ PgAt w' (.agg #[.int .i64 p.ins, .int .i64 p.regs, .slice ca p.code.length cc, .slice oa p.outs.length oc]) p ∧
    (∀ i, i < p.code.length → ∃ b off, ca = some ⟨b, off, none⟩ ∧ w.heap.size ≤ b ∧ b < w'.heap.size ∧ InsC w' b (off + i * 5) (cd p.code i))
  else e = .returned (.func (.func 26) #[] #[])
set_option maxRecDepth 100000 in
set_option maxHeartbeats 8000000 in
theorem twice_any (v : Value) (p : Pg) (w : World) (h : PgAt w v p) (hl : p.code.length ≤ 400 ∧ p.outs.length ≤ 400) :
    Calls Try.prog 8 #[v] w fun e w' => TwR w w' e p ∧ Below w.heap.size w w' := by
  have HP := hide h
  have HL := hide hl
  obtain ⟨ca, cc, oa, oc, rfl, _, _⟩ := h
  go_enter Try.func8, Try.ntmps8
  go_upto_region 1 with fail
  have hb := below_alloc w (.cells #[.int .i64 p.ins, .int .i64 p.regs, .slice ca p.code.length cc, .slice oa p.outs.length oc] 25)
  have PX := hide (Box4.new w 25 (.int .i64 p.ins) (.int .i64 p.regs) (.slice ca p.code.length cc) (.slice oa p.outs.length oc))
  replace HP := hide (HP.out.below hb)
  have HB := hide hb
  clear hb hl
  generalize w.alloc (.cells #[.int .i64 p.ins, .int .i64 p.regs, .slice ca p.code.length cc, .slice oa p.outs.length oc] 25) = w1 at *
  obtain ⟨B, hB⟩ : ∃ B, B = w.heap.size := ⟨_, rfl⟩
  have HZ := hide hB
  rw [← hB] at PX ⊢
  clear hB
  have c0 := PX.out.cell0
  have c1 := PX.out.cell1
  have c2 := PX.out.cell2
  have c3 := PX.out.cell3
  go_wp2_with fail
  refine (check_any _ p _ HP.out).mono ?_
  rintro e w2 ⟨rfl, hb⟩
  replace PX := hide (PX.out.step hb)
  replace HP := hide (HP.out.below hb)
  replace HB := hide (HB.out.trans (hb.mono HB.out.size))
  clear hb c0 c1 c2 c3
  cases hr : rightB p with
  | false =>
    have HRR := hide hr
    rw [ck_wrong hr]
    clear hr
    generalize chkK p = kk
    go_wp2
    go_ret
    exact ⟨by unfold TwR; rw [HRR.out, if_neg (by decide)]; rfl, HB.out⟩
  | true =>
    have HRR := hide hr
    rw [ck_right hr]
    clear hr
    have c0 := PX.out.cell0
    have c1 := PX.out.cell1
    have c2 := PX.out.cell2
    have c3 := PX.out.cell3
    go_wp2_with fail
    refine (copy2_any _ p _ HP.out HL.out).mono ?_
    rintro e w3 ⟨⟨v, rfl, hown⟩, hb⟩
    have OW := hide hown
    obtain ⟨vc, vo, rfl, hoc, hoo⟩ := hown
    obtain ⟨qa, qc, rfl⟩ := own_slice hoc
    obtain ⟨ra, rc, rfl⟩ := own_slice hoo
    have WS := hide HB.out.size
    have LX := hide PX.out.lt
    replace PX := hide (PX.out.step hb)
    replace HB := hide (HB.out.trans (hb.mono HB.out.size))
    have OC := hide hoc
    have OO := hide hoo
    clear hb hoc hoo c0 c1 c2 c3 HP OW
    have c0 := PX.out.cell0
    have c1 := PX.out.cell1
    have c2 := PX.out.cell2
    have c3 := PX.out.cell3
    have f0 := PX.out.free 0
    have f1 := PX.out.free 1
    have f2 := PX.out.free 2
    have f3 := PX.out.free 3
    go_wp2
    go_ret
    have QX := PX.out.put (.int .i64 p.ins) (.int .i64 p.regs) (.slice qa p.code.length qc) (.slice ra p.outs.length rc)
    have O1 : OwnC ((((w3.setCell ⟨B, 0, none⟩ (.int .i64 p.ins)).setCell ⟨B, 1, none⟩ (.int .i64 p.regs)).setCell ⟨B, 2, none⟩ (.slice qa p.code.length qc)).setCell ⟨B, 3, none⟩ (.slice ra p.outs.length rc)) w2.heap.size (.slice qa p.code.length qc) p.code := vrowKeep OC.out (fun g hg => by
      have hg1 := (vrowCells OC.out g hg).1
      have hgB : g ≠ B := by have := LX.out; omega
      exact (Below.heap_setCell _ ⟨B, 3, none⟩ _ g hgB).trans ((Below.heap_setCell _ ⟨B, 2, none⟩ _ g hgB).trans ((Below.heap_setCell _ ⟨B, 1, none⟩ _ g hgB).trans (Below.heap_setCell _ ⟨B, 0, none⟩ _ g hgB))))
    have O2 : OwnO ((((w3.setCell ⟨B, 0, none⟩ (.int .i64 p.ins)).setCell ⟨B, 1, none⟩ (.int .i64 p.regs)).setCell ⟨B, 2, none⟩ (.slice qa p.code.length qc)).setCell ⟨B, 3, none⟩ (.slice ra p.outs.length rc)) w2.heap.size (.slice ra p.outs.length rc) p.outs := vrowKeep OO.out (fun g hg => by
      have hg1 := (vrowCells OO.out g hg).1
      have hgB : g ≠ B := by have := LX.out; omega
      exact (Below.heap_setCell _ ⟨B, 3, none⟩ _ g hgB).trans ((Below.heap_setCell _ ⟨B, 2, none⟩ _ g hgB).trans ((Below.heap_setCell _ ⟨B, 1, none⟩ _ g hgB).trans (Below.heap_setCell _ ⟨B, 0, none⟩ _ g hgB))))
    have HB9 := below_put4 HB.out (show w.heap.size ≤ B by have := HZ.out; omega) (.int .i64 p.ins) (.int .i64 p.regs) (.slice qa p.code.length qc) (.slice ra p.outs.length rc)
    refine ⟨?_, HB9⟩
    unfold TwR
    rw [if_pos HRR.out]
    refine ⟨B, qa, qc, ra, rc, rfl, by have := HZ.out; omega, QX, OwnPg.at (p := p) ⟨_, _, rfl, O1, O2⟩, fun i hi => ?_⟩
    obtain ⟨b, off, e, hI⟩ := (OwnC.at O1).at hi
    refine ⟨b, off, e, ?_, World.block_lt_of_cell? _ _ hI.cell0, hI⟩
    have hv := vrowCells O1 b (by rw [e]; rfl)
    have := WS.out
    omega
set_option maxRecDepth 100000 in
theorem tw1_any (n l : Nat) (W : World) (R : Ending → World → Prop) (h : R (.returned (.tuple #[])) W) : CallsIn Fence.wide n Try.prog 26 #[.func (.yield l) #[] #[]] W R := by
  refine callsIn_of_wp Try.func26 rfl trivial ?_ rfl
  simp only [Try.ntmps26, List.size_toArray, List.length_cons, List.length_nil, Nat.reduceAdd, Nat.reduceSub, Array.replicate_succ, Array.replicate_zero, List.push_toArray, List.append_toArray, List.nil_append, List.cons_append]
  gi_wp2
  go_end0
  exact h
theorem tw1_yields (n : Nat) (w : World) : YieldsL n Try.prog 26 #[] encW 0 0 (fun ys => ys = []) (fun _ => False) w := by
  intro l J Jx W hW _ _ _ h0 _
  exact tw1_any n l W _ ⟨⟨_, rfl⟩, .inl ⟨W.heap.size, [], Nat.le_refl _, rfl, h0 W (Below.refl _ _)⟩⟩

def frT (a : Act) (ps : Array Tmp) (x : Tl) (gx : Nat) : Act := { tmps := (((ps.zip (encT x)).foldl (fun t (p, v) => t.setIfInBounds p v) a.tmps).setIfInBounds 3 (.int .i64 (x.1 : Nat))).setIfInBounds 4 (.pointer (some ⟨gx, 0, none⟩)), defers := [] }
set_option maxRecDepth 100000 in
set_option maxHeartbeats 8000000 in
theorem tw_in (n : Nat) (hn : 2 ≤ n) (l bx lo hi : Nat) (p : Pg) (ca oa : Option Addr) (cc oc : Nat) (hr : rightB p = true) (J Jx : Nat → List Tw → World → Prop) (W : World)
    (hBx : Box4 W bx 25 (.int .i64 p.ins) (.int .i64 p.regs) (.slice ca p.code.length cc) (.slice oa p.outs.length oc))
    (hP : PgAt W (.agg #[.int .i64 p.ins, .int .i64 p.regs, .slice ca p.code.length cc, .slice oa p.outs.length oc]) p)
    (hA : ∀ i, i < p.code.length → ∃ b off, ca = some ⟨b, off, none⟩ ∧ lo ≤ b ∧ b < hi ∧ InsC W b (off + i * 5) (cd p.code i)) (hhi : hi ≤ W.heap.size)
    (hJ : ∀ L, OwnFrom W.heap.size (J L)) (hJx : ∀ L, OwnFrom W.heap.size (Jx L)) (hT : ∀ L pre U V, W.heap.size ≤ L → L ≤ U.heap.size → J L pre U → Turns W.heap.size L U V → J L pre V)
    (h0 : ∀ V, Below W.heap.size W V → J V.heap.size [] V)
    (hY : ∀ L pre x U, W.heap.size ≤ L → L ≤ U.heap.size → J L pre U → pre ++ [x] <+: twf (tls p p.code.length) → YieldAt Fence.wide (n - 1) Try.prog l (encW x) U fun e V => KeepsFrom W.heap.size U V ∧
      ((e = .returned (.bool true) ∧ J L (pre ++ [x]) V ∧ Keeps lo hi U V ∧ Keeps W.heap.size L U V) ∨ (e = .returned (.bool false) ∧ Jx L (pre ++ [x]) V))) :
    CallsIn Fence.wide n Try.prog 28 #[.func (.yield l) #[] #[], .pointer (some ⟨bx, 0, none⟩)] W fun e V => (∃ v, e = .returned v) ∧
      ((∃ L xs, W.heap.size ≤ L ∧ xs = twf (tls p p.code.length) ∧ J L xs V) ∨ (∃ L pre, W.heap.size ≤ L ∧ pre <+: twf (tls p p.code.length) ∧ Jx L pre V)) := by
  have HY := hide hY
  have HA := hide hA
  have HJ := hide hJ
  have HX := hide hJx
  have HT := hide hT
  have H0 := hide h0
  have PX := hide hBx
  have HHI := hide hhi
  have HRR := hide hr
  have HP := hide hP
  clear hY hA hJ hJx hT h0 hBx hhi hr hP
  refine callsIn_of_wp_marks Try.func28 rfl trivial ?_ rfl
  simp only [Try.ntmps28, List.size_toArray, List.length_cons, List.length_nil, Nat.reduceAdd, Nat.reduceSub, Array.replicate_succ, Array.replicate_zero, List.push_toArray, List.append_toArray, List.nil_append, List.cons_append]
  gi_upto_region 1 with fail
  have hb := below_alloc W (.cells #[.func (.yield l) #[] #[]] 61)
  have BY := hide (Boxed.new W 61 (.func (.yield l) #[] #[]))
  have HB := hide hb
  replace PX := hide (PX.out.step hb)
  replace HP := hide (HP.out.below hb)
  clear hb
  generalize W.alloc (.cells #[.func (.yield l) #[] #[]] 61) = w1 at *
  obtain ⟨gY, hgY⟩ : ∃ q, q = W.heap.size := ⟨_, rfl⟩
  have GY := hide (Nat.le_of_eq hgY.symm)
  rw [← hgY] at BY ⊢
  clear hgY
  have c0 := PX.out.cell0
  have c1 := PX.out.cell1
  have c2 := PX.out.cell2
  have c3 := PX.out.cell3
  refine wpIn_wide.2 ?_
  go_wp2_with fail
  refine (thru_any _ p _ HP.out).mono ?_
  rintro e w8 ⟨⟨ca', cc', oa', oc', hv, rfl, hbx⟩, hb⟩
  simp only [Value.agg.injEq, Array.mk.injEq, List.cons.injEq, Value.slice.injEq, and_true, true_and] at hv
  obtain ⟨⟨rfl, rfl⟩, rfl, rfl⟩ := hv
  have BX := hide hbx
  replace BY := hide (bx_step BY.out hb)
  replace HP := hide (HP.out.below hb)
  replace HB := hide (HB.out.trans (hb.mono HB.out.size))
  have LY := hide BY.out.lt
  have WL : Hid (W.heap.size ≤ w8.heap.size) := hide HB.out.size
  clear hbx hb c0 c1 c2 c3 PX
  generalize w1.heap.size = bx2 at *
  go_wp2_with fail
  gi_wp2_with fail
  refine rangeLB frT (by omega) (gf := 48) (lb := #[.pointer (some ⟨bx2, 0, none⟩)]) rfl (enters_of Try.func48 (by kernel_rfl) rfl)
    (thr_yields (n - 1) (by omega) bx2 lo hi p ca oa cc oc HRR.out w8 BX.out HP.out (fun i hi' => by obtain ⟨b, off, e, h1, h2, h3⟩ := HA.out i hi'; exact ⟨b, off, e, h1, h2, InsC.under h3 HB.out (Nat.lt_of_lt_of_le h2 HHI.out)⟩) (Nat.le_trans HHI.out WL.out)) (Nat.le_trans HHI.out WL.out) (Below.refl _ _) (fun _ => rfl)
    (fun L pre Z => J L (twf pre) Z ∧ Boxed Z gY 61 (.func (.yield l) #[] #[]))
    (fun L c pre Z => c = .ret ∧ Jx L (twf pre) Z)
    (fun L pre X Y row q hg hr => ⟨HJ.out L _ X Y row q.1 hg (fun r e => ⟨Nat.le_trans WL.out (hr r e).1, (hr r e).2⟩), boxOwn q.2 hg (fun r e => (hr r e).2)⟩)
    (fun L c pre X Y row q hg hr => ⟨q.1, HX.out L _ X Y row q.2 hg (fun r e => ⟨Nat.le_trans WL.out (hr r e).1, (hr r e).2⟩)⟩)
    (fun L pre U V h1 h2 q ht => ⟨HT.out L _ U V (Nat.le_trans WL.out (by omega)) h2 q.1 (ht.wide (Nat.le_trans WL.out (by omega)) (Nat.le_refl _)), (ht.keep gY q.2.lt (.inl (by have := LY.out; omega))).trans q.2⟩)
    (fun V hV hs => ⟨H0.out V (HB.out.trans (hV.mono WL.out)), bx_step BY.out hV⟩)
    (fun x gx W => Box2 W gx 60 (.int .i64 x.2.1) (.int .i64 x.2.2)) (fun x gx _ X Y row h hg hr => boxOwn h hg (fun r e => (hr r e).2)) ?asg ?bd ?dn ?st
  case asg =>
    intro r L pre x Z K h1 h2 hI hK
    obtain ⟨xk, xv, xf⟩ := x
    unfold encT
    simp only [List.zip_toArray, List.zip_cons_cons, List.zip_nil_right, List.foldl_toArray', List.size_toArray, List.length_cons, List.length_nil, List.foldl_cons, List.foldl_nil, List.setIfInBounds_toArray, List.set_cons_succ, List.set_cons_zero]
    gi_wp2
    have al := below_alloc Z (.cells #[.int .i64 xv, .int .i64 xf] 60)
    have EX := Box2.new Z 60 (.int .i64 xv) (.int .i64 xf)
    exact hK _ _ _ (kf_below al) (KpL.below al (Nat.le_trans HHI.out (Nat.le_trans WL.out (by omega))) h2) ⟨own_belowL (HJ.out L) hI.1 al, bx_step hI.2 al⟩ (by simp only [frT, encT, List.zip_toArray, List.zip_cons_cons, List.zip_nil_right, List.foldl_toArray', List.size_toArray, List.length_cons, List.length_nil, List.foldl_cons, List.foldl_nil, List.setIfInBounds_toArray, List.set_cons_succ, List.set_cons_zero]) EX
  case bd =>
    rintro r L pre x gx Z h1 h2 ⟨hj, hby⟩ hEX hsp
    have HL1 : Hid (W.heap.size ≤ L) := hide (Nat.le_trans WL.out (by omega))
    have HL2 := hide h2
    have HLY : Hid (gY < L) := hide (by have := LY.out; omega)
    have HL8 : Hid (w8.heap.size + 2 ≤ L) := hide h1
    have J1 := hide hj
    have Y1 := hide hby
    have SP := hide (twf_pre hsp)
    clear hj hby hsp h1 h2
    obtain ⟨xk, xv, xf⟩ := x
    dsimp only at hEX
    rw [twf_app] at SP
    unfold frT encT
    simp only [List.zip_toArray, List.zip_cons_cons, List.zip_nil_right, List.foldl_toArray', List.size_toArray, List.length_cons, List.length_nil, List.foldl_cons, List.foldl_nil, List.setIfInBounds_toArray, List.set_cons_succ, List.set_cons_zero]
    have cy := Y1.out.cell
    have e0 := hEX.cell0
    have e1 := hEX.cell1
    by_cases hlt : xf < (xk : Int)
    · have ET : Hid (twf (pre ++ [(xk, xv, xf)]) = twf pre ++ [(xk, xf)]) := hide (by rw [twf_app]; unfold twF; rw [if_pos hlt]; rfl)
      have SP2 : Hid (twf pre ++ [((xk, xf) : Tw)] <+: twf (tls p p.code.length)) := hide (by have h := SP.out; unfold twF at h; rw [if_pos hlt] at h; exact h)
      obtain ⟨fn3, tm3, as3, bd3, hy3, hr3⟩ := yield_inL (r := r) (k := n - 1 - 1 - 1) (HY.out L (twf pre) (xk, xf) Z HL1.out HL2.out J1.out SP2.out)
      have R3 := hide hr3
      unfold encW at hy3
      dsimp only at hy3
      clear hr3 SP hEX
      gi_wp2
      refine ⟨(fun h => by cases h), R3.out.mono ?_⟩
      rintro e V ⟨kf, (⟨rfl, j1, ka, kb⟩ | ⟨rfl, jx⟩)⟩
      · clear hy3 cy e0 e1
        gi_wp2
        exact ⟨⟨kf.size, fun k o hk => kf.same k o (Nat.le_trans WL.out hk)⟩, ⟨ka, fun k h1 h2 => kb k (Nat.le_trans WL.out (by omega)) h2⟩, by rw [ET.out]; exact j1, (kb gY GY.out HLY.out).trans Y1.out⟩
      · clear hy3 cy e0 e1
        gi_wp2
        exact ⟨⟨kf.size, fun k o hk => kf.same k o (Nat.le_trans WL.out hk)⟩, rfl, by rw [ET.out]; exact jx⟩
    · have ET : Hid (twf (pre ++ [(xk, xv, xf)]) = twf pre) := hide (by rw [twf_app]; unfold twF; rw [if_neg hlt]; simp)
      clear SP hEX
      gi_wp2
      refine ⟨(fun _ h => by cases h), ?_⟩
      gi_wp2
      exact ⟨KeepsFrom.refl _ _, KpL.refl _ _ _ _ _, by rw [ET.out]; exact J1.out, Y1.out⟩
  case dn =>
    rintro D L xs Z hD hL hxs ⟨hj, _⟩ hK _
    subst hxs
    show bodyPostM Fence.wide n Try.prog Try.f28 _ .normal _ _
    show LeavesInM Fence.wide n Try.prog Try.f28 _ _ _ .returning _
    exact leavesC (B := W.heap.size) (I := J L) (HJ.out L) (twf (tls p p.code.length)) (fun V hV => ⟨_, results_none rfl _ _ _, ⟨_, rfl⟩, .inl ⟨L, _, Nat.le_trans WL.out (by omega), rfl, hV⟩⟩) [D] Z (MarksC.one (Nat.le_trans WL.out hD) hK) hj
  case st =>
    rintro D L c pre Z hD hL hp ⟨rfl, jx⟩ hK _
    refine wpIn_ret ?_
    show LeavesInM Fence.wide n Try.prog Try.f28 _ _ _ .returning _
    exact leavesC (B := W.heap.size) (I := Jx L) (HX.out L) (twf pre) (fun V hV => ⟨_, results_none rfl _ _ _, ⟨_, rfl⟩, .inr ⟨L, _, Nat.le_trans WL.out (by omega), twf_pre hp, hV⟩⟩) [D] Z (MarksC.one (Nat.le_trans WL.out hD) hK) jx
theorem tw_yields (n : Nat) (hn : 2 ≤ n) (bx lo hi : Nat) (p : Pg) (ca oa : Option Addr) (cc oc : Nat) (hr : rightB p = true) (w : World)
    (hBx : Box4 w bx 25 (.int .i64 p.ins) (.int .i64 p.regs) (.slice ca p.code.length cc) (.slice oa p.outs.length oc))
    (hP : PgAt w (.agg #[.int .i64 p.ins, .int .i64 p.regs, .slice ca p.code.length cc, .slice oa p.outs.length oc]) p)
    (hA : ∀ i, i < p.code.length → ∃ b off, ca = some ⟨b, off, none⟩ ∧ lo ≤ b ∧ b < hi ∧ InsC w b (off + i * 5) (cd p.code i)) (hhi : hi ≤ w.heap.size) :
    YieldsL n Try.prog 28 #[.pointer (some ⟨bx, 0, none⟩)] encW lo hi (fun xs => xs = twf (tls p p.code.length)) (fun pre => pre <+: twf (tls p p.code.length)) w := by
  intro l J Jx W hW hJ hJx hT h0 hY
  refine tw_in n hn l bx lo hi p ca oa cc oc hr J Jx W (hBx.step hW) (hP.below hW) (fun i hi' => ?_) (Nat.le_trans hhi hW.size) hJ hJx hT h0 hY
  obtain ⟨b, off, e, h1, h2, h3⟩ := hA i hi'
  exact ⟨b, off, e, h1, h2, h3.step hW⟩
end Go.Proofs.Ytclopelniopjkaa
