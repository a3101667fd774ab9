/- share.Values: the numbers of the values that instructions reckon. -/
import Derived.Test.YtclopelniopjkaaShTh
import Derived.Test.YtclopelniopjkaaPgApp
namespace Go.Proofs.Ytclopelniopjkaa
open Go.RowKit Go.Shelf
attribute [local go_sem] Oper.semAt_some

/-- the values of what is told -/
def vls (l : List Tl) : List Int := l.map (fun x => x.2.1)
theorem vls_app (l : List Tl) (x : Tl) : vls (l ++ [x]) = vls l ++ [x.2.1] := by simp [vls]
/-- what stands while the values are told -/
structure VP (w : World) (Bc C L : Nat) (vc : Value) (l : List Int) (Z : World) : Prop where
  bel : Below w.heap.size w Z
  cx : Boxed Z Bc 23 vc
  oc : OwnO Z L vc l
  sz : L ≤ Z.heap.size
  ge : w.heap.size ≤ Bc ∧ Bc < C ∧ C ≤ L
section
variable {w Z Z' : World} {Bc C L : Nat} {vc : Value} {l : List Int}
theorem VP.below (h : VP w Bc C L vc l Z) (hb : Below Z.heap.size Z Z') : VP w Bc C L vc l Z' :=
  ⟨h.bel.trans (hb.mono h.bel.size), bx_step h.cx hb, own_below h.oc hb, Nat.le_trans h.sz hb.size, h.ge⟩
theorem VP.turn (h : VP w Bc C L vc l Z) (ht : Turns C L Z Z') : VP w Bc C L vc l Z' :=
  ⟨ht.under h.bel (by have := h.ge; omega) h.bel.size, (ht.keep Bc h.cx.lt (.inl h.ge.2.1)).trans h.cx, vrowKeep h.oc (fun g hg => by obtain ⟨h1, h2, _⟩ := vrowCells h.oc g hg; exact ht.keep g h2 (.inr h1)), Nat.le_trans h.sz ht.bel.size, h.ge⟩
theorem VP.own (h : VP w Bc C L vc l Z) {row : Option Nat} (hg : Z.grownBy Z' row) (hr : ∀ r, row = some r → w.heap.size ≤ r ∧ ∃ o : Obj, Z.heap[r]? = some o ∧ o.isCells = false) : VP w Bc C L vc l Z' :=
  ⟨h.bel.grown hg h.bel.size (fun r e => (hr r e).1), boxOwn h.cx hg (fun r e => (hr r e).2), vrowOwn h.oc rfl hg (fun r e => (hr r e).2), Nat.le_trans h.sz hg.size, h.ge⟩
theorem VP.grow (h : VP w Bc C L vc l Z) (hg : Z.grownBy Z' vc.ownBlock) : Boxed Z' Bc 23 vc :=
  (hg.block Bc h.cx.lt (fun e => by have := (vrowCells h.oc Bc e.symm).1; have := h.ge; omega)).trans h.cx
theorem VP.app (h : VP w Bc C L vc l Z) {v' : Value} {l' : List Int} (hg : Z.grownBy Z' vc.ownBlock) (ho : OwnO Z' L v' l') : VP w Bc C L v' l' (Z'.setCell ⟨Bc, 0, none⟩ v') := by
  have hlt : ∀ k, vc.ownBlock = some k → L ≤ k := fun k hk => (vrowCells h.oc k hk).1
  have g := h.ge
  have bc := h.grow hg
  refine ⟨(h.bel.grown hg h.bel.size (fun k hk => Nat.le_trans (by omega) (hlt k hk))).setCell (p := ⟨Bc, 0, none⟩) (by show w.heap.size ≤ Bc; omega) _, bc.set _, vrowKeep ho (fun g hg => Below.heap_setCell Z' ⟨Bc, 0, none⟩ v' g (fun e => ?_)), by have h1 := h.sz; have h2 := hg.size; simp only [World.setCell, Array.size_modify]; omega, h.ge⟩
  have := (vrowCells ho g hg).1
  have e1 : g = Bc := e
  omega
end
def IV (w : World) (Bc C L : Nat) (pre : List Tl) (Z : World) : Prop := ∃ vc, VP w Bc C L vc (vls pre) Z
def frV (a : Act) (ps : Array Tmp) (x : Tl) (gx : Nat) : Act := { tmps := ((ps.zip (encT x)).foldl (fun t (p, v) => t.setIfInBounds p v) a.tmps).setIfInBounds 8 (.pointer (some ⟨gx, 0, none⟩)), defers := [] }
def ValR (w w' : World) (e : Ending) (p : Pg) : Prop := if rightB p = true then ∃ s, e = .returned (.tuple #[s, .int .i64 0]) ∧ OwnO w' w.heap.size s (vls (tls p p.code.length)) else e = .returned (.tuple #[.slice none 0 0, .int .i64 80])
set_option maxRecDepth 100000 in
set_option maxHeartbeats 8000000 in
theorem values_any (v : Value) (p : Pg) (w : World) (h : PgAt w v p) :
    Calls Try.prog 7 #[v] w fun e w' => ValR w w' e p ∧ Below w.heap.size w w' := by
  have HP := hide h
  obtain ⟨ca, cc, oa, oc, rfl, hc, ho⟩ := h
  have HA := hide (show ∀ i, i < p.code.length → ∃ b off, ca = some ⟨b, off, none⟩ ∧ 0 ≤ b ∧ b < w.heap.size ∧ InsC w b (off + i * 5) (cd p.code i) from fun i hi => by
    obtain ⟨b, off, e, hI⟩ := hc.at hi
    exact ⟨b, off, e, Nat.zero_le _, World.block_lt_of_cell? _ _ hI.cell0, hI⟩)
  clear hc ho
  refine callsC (n := 3) Try.func7 rfl ?_
  simp only [Try.ntmps7, List.size_toArray, List.length_cons, List.length_nil, Nat.reduceAdd, Nat.reduceSub, Array.replicate_succ, Array.replicate_zero, List.push_toArray, List.append_toArray, List.nil_append, List.cons_append]
  go_upto_region 1 with fail
  have b1 := below_alloc w (.cells #[.int .i64 p.ins, .int .i64 p.regs, .slice ca p.code.length cc, .slice oa p.outs.length oc] 25)
  have PX := hide (Box4.new w 25 (.int .i64 p.ins) (.int .i64 p.regs) (.slice ca p.code.length cc) (.slice oa p.outs.length oc))
  have HPW := hide HP.out
  replace HP := hide (HP.out.below b1)
  have HB := hide b1
  clear b1
  generalize w.alloc (.cells #[.int .i64 p.ins, .int .i64 p.regs, .slice ca p.code.length cc, .slice oa p.outs.length oc] 25) = w1 at *
  obtain ⟨B0, hB0⟩ : ∃ B0, B0 = w.heap.size := ⟨_, rfl⟩
  have HZ := hide hB0
  rw [← hB0] at PX ⊢
  clear hB0
  have c0 := PX.out.cell0
  have c1 := PX.out.cell1
  have c2 := PX.out.cell2
  have c3 := PX.out.cell3
  go_wp2_with fail
  refine (check_any _ p _ HP.out).mono ?_
  rintro e w2 ⟨rfl, hb⟩
  replace PX := hide (PX.out.step hb)
  replace HP := hide (HP.out.below hb)
  replace HB := hide (HB.out.trans (hb.mono HB.out.size))
  clear hb c0 c1 c2 c3
  cases hr : rightB p with
  | false =>
    have HRR := hide hr
    rw [ck_wrong hr]
    clear hr
    generalize chkK p = kk
    go_wp2
    exact ⟨_, results_tmp2 rfl _ _ _, by unfold ValR; rw [HRR.out, if_neg (by decide)]; rfl, HB.out⟩
  | true =>
    have HRR := hide hr
    rw [ck_right hr]
    clear hr
    have LN := hide (show p.code.length ≤ 16384 from (right_parts HRR.out).2.2.2.1)
    go_upto_region 5 with fail
    have b1 := below_alloc w2 (.cells #[.slice none 0 0] 23)
    have XC := hide (Boxed.new w2 23 (.slice none 0 0))
    have GC := hide (show w.heap.size ≤ w2.heap.size from HB.out.size)
    replace PX := hide (PX.out.step b1)
    replace HP := hide (HP.out.below b1)
    replace HB := hide (HB.out.trans (b1.mono HB.out.size))
    clear b1
    generalize w2.alloc (.cells #[.slice none 0 0] 23) = w3 at *
    generalize w2.heap.size = Bc at *
    have c0 := PX.out.cell0
    have c1 := PX.out.cell1
    have c2 := PX.out.cell2
    have c3 := PX.out.cell3
    go_wp2_with fail
    refine (thru_any _ p _ HP.out).mono ?_
    rintro e w8 ⟨⟨ca', cc', oa', oc', hv, rfl, hbx⟩, hb⟩
    simp only [Value.agg.injEq, Array.mk.injEq, List.cons.injEq, Value.slice.injEq, and_true, true_and] at hv
    obtain ⟨⟨rfl, rfl⟩, rfl, rfl⟩ := hv
    have BX := hide hbx
    replace XC := hide (bx_step XC.out hb)
    replace HP := hide (HP.out.below hb)
    replace HB := hide (HB.out.trans (hb.mono HB.out.size))
    have LC := hide XC.out.lt
    have WL : Hid (w.heap.size ≤ w8.heap.size) := hide HB.out.size
    have AX := HA
    clear hbx hb c0 c1 c2 c3 PX
    generalize w3.heap.size = bx at *
    go_wp2_with fail
    refine (wpIn_wide (n := 3)).1 ?_
    refine rangeLB frV (by omega) (gf := 48) (lb := #[.pointer (some ⟨bx, 0, none⟩)]) rfl (enters_of Try.func48 (by kernel_rfl) rfl)
      (thr_yields 2 (by omega) bx 0 w.heap.size p ca oa cc oc HRR.out w8 BX.out HP.out (fun i hi => by obtain ⟨b, off, e, h1, h2, h3⟩ := HA.out i hi; exact ⟨b, off, e, h1, h2, InsC.under h3 HB.out h2⟩) WL.out) WL.out (Below.refl _ _) (fun _ => rfl)
      (IV w Bc (w8.heap.size + 2)) (fun _ _ _ _ => False) (fun L _ X Y row ⟨vc, q⟩ hg hr => ⟨vc, q.own hg (fun r e => ⟨Nat.le_trans WL.out (hr r e).1, (hr r e).2⟩)⟩) (fun _ _ => ownFrom_pure _ _)
      (fun L pre U V _ _ ⟨vc, q⟩ ht => ⟨vc, q.turn ht⟩)
      (fun V hV hs => ⟨.slice none 0 0, HB.out.trans (hV.mono WL.out), bx_step XC.out hV, World.ownsRow_nil _ _ _ _, Nat.le_refl _, GC.out, by have := LC.out; omega, hs⟩)
      (fun x gx W => Box2 W gx 60 (.int .i64 x.2.1) (.int .i64 x.2.2)) (fun x gx _ X Y row h hg hr => boxOwn h hg (fun r e => (hr r e).2)) ?asg ?bd ?dn ?st
    case asg =>
      intro l L pre x W K h1 h2 hI hK
      obtain ⟨xk, xv, xf⟩ := x
      unfold encT
      simp only [List.zip_toArray, List.zip_cons_cons, List.zip_nil_right, List.foldl_toArray', List.size_toArray, List.length_cons, List.length_nil, List.foldl_cons, List.foldl_nil, List.setIfInBounds_toArray, List.set_cons_succ, List.set_cons_zero]
      gi_wp2
      have al := below_alloc W (.cells #[.int .i64 xv, .int .i64 xf] 60)
      have EX := Box2.new W 60 (.int .i64 xv) (.int .i64 xf)
      obtain ⟨vc, q⟩ := hI
      exact hK _ _ _ (kf_below al) (KpL.below al (Nat.le_trans WL.out (by omega)) h2) ⟨vc, q.below al⟩ (by simp only [frV, encT, List.zip_toArray, List.zip_cons_cons, List.zip_nil_right, List.foldl_toArray', List.size_toArray, List.length_cons, List.length_nil, List.foldl_cons, List.foldl_nil, List.setIfInBounds_toArray, List.set_cons_succ, List.set_cons_zero]) EX
    case bd =>
      rintro l L pre x gx W h1 h2 ⟨vc, hkp⟩ hEX hsp
      have Q := hide hkp
      have EX := hide hEX
      have LNP : Hid (pre.length ≤ 16384) := hide (by have h1 := hsp.length_le; rw [tls_length, List.length_append, List.length_singleton] at h1; have h3 := LN.out; omega)
      clear hkp hsp hEX
      obtain ⟨xk, xv, xf⟩ := x
      dsimp only at EX
      unfold frV encT
      simp only [List.zip_toArray, List.zip_cons_cons, List.zip_nil_right, List.foldl_toArray', List.size_toArray, List.length_cons, List.length_nil, List.foldl_cons, List.foldl_nil, List.setIfInBounds_toArray, List.set_cons_succ, List.set_cons_zero]
      have H1 := hide h1
      have H2 := hide h2
      clear h1 h2
      have cc0 := Q.out.cx.cell
      have e0 := EX.out.cell0
      have e1 := EX.out.cell1
      have al := below_alloc W (.cells #[.int .i64 xv] 3)
      have BO := hide (int1 W xv rfl)
      have Q2 := hide (Q.out.below al)
      have F2 := hide (kf_below (B := w8.heap.size) al)
      have R2 := hide (KpL.below (lo := 0) (hi := w.heap.size) (B := w8.heap.size + 2) (L := L) al (Nat.le_trans WL.out (by have := H1.out; have := H2.out; omega)) H2.out)
      clear al
      gi_wp2_with (gi_at_builtin; refine wpListIn_op rfl (by intro c h; cases h) fun K hK => ?_; refine wp_appO _ _ rfl L _ (vls pre) rfl Q2.out.oc _ [xv] rfl BO.out (by simp only [vls, List.length_map, List.length_singleton]; have := LNP.out; omega) Q2.out.sz ?_; intro v0 w9 hown hgrow; refine hK _ _ ?_; obtain ⟨va1, vc1, hv1⟩ := own_slice hown; obtain ⟨n1, hn1⟩ : ∃ n1, n1 = (vls pre ++ [xv]).length := ⟨_, rfl⟩; rw [← hn1] at hv1; clear hn1; have C9 := hide (Q2.out.grow hgrow); have K9 := hide (Q2.out.app hgrow hown); have F9 := hide ((F2.out.trans (kf_grown hgrow (fun r e => by obtain ⟨_, _, cs, f, h⟩ := vrowCells Q2.out.oc r e; exact ⟨cs, _, f, h⟩))).trans (kf_set (b := Bc) (o := 0) w9 v0)); have R9 := hide ((R2.out.trans (KpL.grown hgrow (fun k hk => by have h1 := H1.out; have h3 := Q2.out.sz; have h4 := WL.out; exact ⟨by omega, fun e => by have := (vrowCells Q2.out.oc k e).1; omega⟩))).trans (KpL.set (b := Bc) w9 0 v0 (fun k hk => by have := Q2.out.ge; omega))); clear hown hgrow cc0 e0 e1; rw [hv1] at K9 F9 R9 ⊢; have o3 := C9.out.cell; have of3 := C9.out.frozen)
      exact ⟨F9.out, R9.out, _, by rw [vls_app]; exact K9.out⟩
    case dn =>
      rintro D L xs Z hD hL hxs ⟨vc, hkp⟩ hK _
      subst hxs
      have Q := hide hkp
      have HD := hide hD
      have HK := hide hK
      have HL := hide hL
      have cc0 := hkp.cx.cell
      clear hkp hD hK hL
      simp only [Exit.inBlock, Exit.then]
      go_wp2
      refine leavesC (B := w8.heap.size) (I := fun (_ : Unit) V => OwnO V L vc (vls (tls p p.code.length)) ∧ Below w.heap.size w V) (fun _ X Y row q hg hr => ⟨vrowOwn q.1 rfl hg (fun r e => (hr r e).2), q.2.grown hg q.2.size (fun r e => Nat.le_trans WL.out (hr r e).1)⟩) () (fun V q => ⟨_, results_tmp2 rfl _ _ _, by unfold ValR; rw [if_pos HRR.out]; exact ⟨_, rfl, own_base q.1 (by have := HL.out; have := WL.out; omega)⟩, q.2⟩) [D] _ (MarksC.one HD.out HK.out) ⟨Q.out.oc, Q.out.bel⟩
    case st => exact fun _ _ _ _ _ _ _ _ h _ _ => h.elim
end Go.Proofs.Ytclopelniopjkaa
