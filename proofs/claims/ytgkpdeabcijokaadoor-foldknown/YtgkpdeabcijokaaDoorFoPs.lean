/- fold.mayBe, isPlain, Plain, Melt: the plain form, and what two come to. -/
import Derived.Test.YtgkpdeabcijokaaDoorFoMe
import Derived.Test.YtgkpdeabcijokaaDoorPgChk
import Derived.Test.YtgkpdeabcijokaaDoorPgJoin1
import Derived.Test.YtgkpdeabcijokaaDoorPgChecksWalk
namespace Go.Proofs.YtgkpdeabcijokaaDoor
open Go.RowKit

def onePg (i : Ins) : Pg := ⟨1, 128, [i], [0]⟩
theorem one_right (i : Ins) : rightB (onePg i) = mayB i 128 := by
  unfold rightB headB numB badAt onePg regB
  cases h : mayB i 128 <;> simp [List.findIdx_cons, h]
set_option maxRecDepth 100000 in
set_option maxHeartbeats 8000000 in
theorem fmay_any (i : Ins) (w : World) :
    Calls Tryd.prog 10 #[.agg #[.int .i64 i.op, .int .i64 i.to, .int .i64 i.a, .int .i64 i.b, .int .i64 i.c]] w fun e w' => e = .returned (.bool (mayB i 128)) ∧ Below w.heap.size w w' := by
  have HR := hide (one_right i)
  obtain ⟨op, to, a, b, c⟩ := i
  dsimp only
  go_enter Tryd.func10, Tryd.ntmps10
  go_upto_region 1 with fail
  have b1 := below_alloc w (.cells #[.int .i64 op, .int .i64 to, .int .i64 a, .int .i64 b, .int .i64 c] 24)
  have IX0 := (Box5.new w 24 ⟨op, to, a, b, c⟩)
  replace IX0 : Hid (Box5 (w.alloc (.cells #[.int .i64 op, .int .i64 to, .int .i64 a, .int .i64 b, .int .i64 c] 24)) (w.heap.size) 24 ⟨op, to, a, b, c⟩) := hide IX0
  have HB := hide b1
  clear b1
  generalize w.alloc (.cells #[.int .i64 op, .int .i64 to, .int .i64 a, .int .i64 b, .int .i64 c] 24) = w1 at *
  obtain ⟨B0, hB0⟩ : ∃ B, B = w.heap.size := ⟨_, rfl⟩
  have ZB0 := hide hB0
  rw [← hB0] at IX0 ⊢
  clear hB0
  have k0 := IX0.out.cells.cell0
  have k1 := IX0.out.cells.cell1
  have k2 := IX0.out.cells.cell2
  have k3 := IX0.out.cells.cell3
  have k4 := IX0.out.cells.cell4
  simp only [Nat.zero_add] at k1 k2 k3 k4
  have b2 := below_alloc w1 (.cells #[.int .i64 op, .int .i64 to, .int .i64 a, .int .i64 b, .int .i64 c] 24)
  have C1 := hide (code1 w1 ⟨op, to, a, b, c⟩ rfl)
  have b3 := below_alloc (w1.alloc (.cells #[.int .i64 op, .int .i64 to, .int .i64 a, .int .i64 b, .int .i64 c] 24)) (.cells #[.int .i64 0] 3)
  have C2 := hide (int1 (w1.alloc (.cells #[.int .i64 op, .int .i64 to, .int .i64 a, .int .i64 b, .int .i64 c] 24)) 0 rfl)
  replace C1 := hide (C1.out.below b3)
  replace HB := hide ((HB.out.trans (b2.mono HB.out.size)).trans (b3.mono (Nat.le_trans HB.out.size b2.size)))
  clear b2 b3
  go_wp2_with fail
  refine (check_any _ (onePg ⟨op, to, a, b, c⟩) _ ⟨_, _, _, _, rfl, C1.out, (by have h := C2.out; simp only [World.size_alloc] at h; exact h)⟩).mono ?_
  rintro e w2 ⟨rfl, hb⟩
  replace HB := hide (HB.out.trans (hb.mono HB.out.size))
  clear hb k0 k1 k2 k3 k4
  unfold ckV
  rw [HR.out]
  generalize chkK (onePg ⟨op, to, a, b, c⟩) = kk
  cases hm : mayB ⟨op, to, a, b, c⟩ 128 with
  | false =>
    go_wp2
    go_ret
    exact ⟨by simp [hm], HB.out⟩
  | true =>
    go_wp2
    go_ret
    exact ⟨by simp [hm], HB.out⟩
theorem Calm.skipF {P : Program} {md : Region.Mode} {ops : Array Oper} {Q : Exit → Act → World → Prop} {F : World → Prop} {pend : Nat → Bool} {i : Nat} {oi : Oper} {fuel : Nat} {listed : Array Bool} {a : Act} {w : World} (hi : ops[i]? = some oi) (hs : Region.noSelect ops = true) (hw : Waits md ops pend i = true) (hf : Region.free md ops listed i = true)
    (hr : (Region.ready md ops listed).contains i = true) (hQ : ∀ c a w, Q (.panic c) (a.put oi.dst undef) w → Q (.panic c) a w) (hF : F w) (hg : Region.wanted oi (yielded ops a.tmps) = false)
    {l' : Array Bool} (hl : listed.setIfInBounds i true = l') {d : Option Tmp} (hd : oi.dst = d) {a' : Act} (ha : a.put d undef = a') (h : Calm P md ops Q F pend fuel l' a' w) : Calm P md ops Q F pend (fuel + 1) listed a w := by
  subst hl; subst hd; subst ha
  exact Calm.first hi hs hw hQ fuel listed a w (Region.free_spec hi hf) (by simpa using hr) hF (.inr ⟨hg, rfl⟩) h

def eqI (x y : Ins) : Bool := decide (x.op = y.op) && decide (x.to = y.to) && decide (x.a = y.a) && decide (x.b = y.b) && decide (x.c = y.c)
theorem eqI_iff (x y : Ins) : eqI x y = true ↔ x = y := by
  obtain ⟨a1, a2, a3, a4, a5⟩ := x
  obtain ⟨b1, b2, b3, b4, b5⟩ := y
  unfold eqI
  simp only [Bool.and_eq_true, decide_eq_true_eq, Ins.mk.injEq]
  omega
theorem eqI_yes {x y : Ins} (h : x = y) : eqI x y = true := (eqI_iff x y).2 h
theorem eqI_no {x y : Ins} (h : x ≠ y) : eqI x y = false := by
  cases e : eqI x y with
  | false => rfl
  | true => exact absurd ((eqI_iff x y).1 e) h
/-- it may be, and is its own plain form -/
def plB (i : Ins) : Bool := mayB i 128 && eqI (plI i) i
set_option maxRecDepth 100000 in
set_option maxHeartbeats 8000000 in
theorem isPlain_any (i : Ins) (w : World) (hT : TabW64 w) :
    Calls Tryd.prog 12 #[.agg #[.int .i64 i.op, .int .i64 i.to, .int .i64 i.a, .int .i64 i.b, .int .i64 i.c]] w fun e w' => e = .returned (.bool (plB i)) ∧ Below w.heap.size w w' := by
  have HT := hide hT
  clear hT
  obtain ⟨op, to, a, b, c⟩ := i
  dsimp only
  cases hm : mayB ⟨op, to, a, b, c⟩ 128 with
  | false =>
    have HMB := hide hm
    have HRES : Hid (plB ⟨op, to, a, b, c⟩ = false) := hide (by unfold plB; rw [hm]; rfl)
    clear hm
    generalize plB ⟨op, to, a, b, c⟩ = RES at *
    go_enter Tryd.func12, Tryd.ntmps12
    go_upto_region 1 with fail
    have b1 := below_alloc w (.cells #[.int .i64 op, .int .i64 to, .int .i64 a, .int .i64 b, .int .i64 c] 24)
    have IX0 := (Box5.new w 24 ⟨op, to, a, b, c⟩)
    replace IX0 : Hid (Box5 (w.alloc (.cells #[.int .i64 op, .int .i64 to, .int .i64 a, .int .i64 b, .int .i64 c] 24)) (w.heap.size) 24 ⟨op, to, a, b, c⟩) := hide IX0
    have HB := hide b1
    replace HT := hide (HT.out.below b1)
    clear b1
    generalize w.alloc (.cells #[.int .i64 op, .int .i64 to, .int .i64 a, .int .i64 b, .int .i64 c] 24) = w1 at *
    obtain ⟨B0, hB0⟩ : ∃ B, B = w.heap.size := ⟨_, rfl⟩
    have ZB0 := hide hB0
    rw [← hB0] at IX0 ⊢
    clear hB0
    refine wp_calm (fun w' => Below w.heap.size w w' ∧ Box5 w' B0 24 ⟨op, to, a, b, c⟩ ∧ TabW64 w') (fun _ => true) 9 #[false, false, false, false, false, false, false, false, false] (by kernel_rfl) rfl rfl ?_
    have HF := hide (And.intro (HB.out.drew) (And.intro (IX0.out.drew) (HT.out.drew)))
    generalize w1.drew = w1d at *
    refine Calm.takeL 9 (i := 0) (v := ?_) (a' := ?_) (l' := #[true, false, false, false, false, false, false, false, false]) (d := some 3) (by kernel_rfl) rfl (by kernel_rfl) (by kernel_rfl) (by kernel_rfl) (by kernel_rfl) (fun _ _ _ h => h) HF.out rfl ?_ rfl rfl ?_ ?_
    rotate_left
    · intro w' hF; have f10 := hF.2.1.cells.cell0; have f11 := hF.2.1.cells.cell1; have f12 := hF.2.1.cells.cell2; have f13 := hF.2.1.cells.cell3; have f14 := hF.2.1.cells.cell4; simp only [Nat.zero_add] at f11 f12 f13 f14; clear hF; go_simp; try rfl
    rotate_left
    · simp only [Act.put]; exact rfl
    refine Calm.one (i := 1) (l' := #[true, true, false, false, false, false, false, false, false]) (by kernel_rfl) rfl rfl rfl fun K hK => ?_
    go_simp
    refine (fmay_any ⟨op, to, a, b, c⟩ _).mono ?_
    rintro e u1 ⟨rfl, hb⟩
    rw [HMB.out]
    have HF' := hide (And.intro (HF.out.1.trans ((hb).mono HF.out.1.size)) (And.intro (HF.out.2.1.step (hb)) (HF.out.2.2.below (hb))))
    refine hK _ _ (fun _ => HF'.out) ?_
    clear hK K HF hb
    have HF := hide HF'.out
    clear HF'
    refine Calm.takeL 9 (i := 2) (v := ?_) (a' := ?_) (l' := #[true, true, true, false, false, false, false, false, false]) (d := some 5) (by kernel_rfl) rfl (by kernel_rfl) (by kernel_rfl) (by kernel_rfl) (by kernel_rfl) (fun _ _ _ h => h) HF.out rfl ?_ rfl rfl ?_ ?_
    rotate_left
    · intro w' hF; clear hF; go_simp; try rfl
    rotate_left
    · simp only [Act.put]; exact rfl
    refine Calm.skipF (i := 3) (a' := ?_) (l' := #[true, true, true, true, false, false, false, false, false]) (d := some 6) rfl (by kernel_rfl) (by kernel_rfl) (by kernel_rfl) (by kernel_rfl) (fun _ _ _ h => h) HF.out (by kernel_rfl) rfl rfl ?_ ?_
    rotate_left
    · simp only [Act.put]; exact rfl
    refine Calm.skipF (i := 4) (a' := ?_) (l' := #[true, true, true, true, true, false, false, false, false]) (d := some 7) rfl (by kernel_rfl) (by kernel_rfl) (by kernel_rfl) (by kernel_rfl) (fun _ _ _ h => h) HF.out (by kernel_rfl) rfl rfl ?_ ?_
    rotate_left
    · simp only [Act.put]; exact rfl
    refine Calm.skipF (i := 5) (a' := ?_) (l' := #[true, true, true, true, true, true, false, false, false]) (d := some 8) rfl (by kernel_rfl) (by kernel_rfl) (by kernel_rfl) (by kernel_rfl) (fun _ _ _ h => h) HF.out (by kernel_rfl) rfl rfl ?_ ?_
    rotate_left
    · simp only [Act.put]; exact rfl
    refine Calm.skipF (i := 6) (a' := ?_) (l' := #[true, true, true, true, true, true, true, false, false]) (d := some 9) rfl (by kernel_rfl) (by kernel_rfl) (by kernel_rfl) (by kernel_rfl) (fun _ _ _ h => h) HF.out (by kernel_rfl) rfl rfl ?_ ?_
    rotate_left
    · simp only [Act.put]; exact rfl
    refine Calm.takeL 9 (i := 7) (v := ?_) (a' := ?_) (l' := #[true, true, true, true, true, true, true, true, false]) (d := some 10) (by kernel_rfl) rfl (by kernel_rfl) (by kernel_rfl) (by kernel_rfl) (by kernel_rfl) (fun _ _ _ h => h) HF.out rfl ?_ rfl rfl ?_ ?_
    rotate_left
    · intro w' hF; clear hF; go_simp; try rfl
    rotate_left
    · simp only [Act.put]; exact rfl
    refine Calm.takeL 9 (i := 8) (v := ?_) (a' := ?_) (l' := #[true, true, true, true, true, true, true, true, true]) (d := some 2) (by kernel_rfl) rfl (by kernel_rfl) (by kernel_rfl) (by kernel_rfl) (by kernel_rfl) (fun _ _ _ h => h) HF.out rfl ?_ rfl rfl ?_ ?_
    rotate_left
    · intro w' hF; clear hF; go_simp; try rfl
    rotate_left
    · simp only [Act.put]; exact rfl
    refine Calm.done (by kernel_rfl) ?_
    replace HB := hide HF.out.1
    clear HF
    go_wp2
    go_ret
    exact ⟨by first | (rw [HRES.out]; rfl) | (rw [HRES.out]; simp), HB.out⟩
  | true =>
    have HMB := hide hm
    have CP : Hid (∀ u, TabW64 u → Calls Tryd.prog 11 #[.agg #[.int .i64 op, .int .i64 to, .int .i64 a, .int .i64 b, .int .i64 c]] u fun e w' => e = .returned (.agg #[.int .i64 (plI ⟨op, to, a, b, c⟩).op, .int .i64 (plI ⟨op, to, a, b, c⟩).to, .int .i64 (plI ⟨op, to, a, b, c⟩).a, .int .i64 (plI ⟨op, to, a, b, c⟩).b, .int .i64 (plI ⟨op, to, a, b, c⟩).c]) ∧ Below u.heap.size u w') := hide (fun u h => plain_any ⟨op, to, a, b, c⟩ u hm h)
    have HRES : Hid (plB ⟨op, to, a, b, c⟩ = eqI (plI ⟨op, to, a, b, c⟩) ⟨op, to, a, b, c⟩) := hide (by unfold plB; rw [hm]; rfl)
    clear hm
    generalize plB ⟨op, to, a, b, c⟩ = RES at *
    generalize plI ⟨op, to, a, b, c⟩ = y at *
    by_cases hy : y = ⟨op, to, a, b, c⟩
    · subst hy
      rw [eqI_yes rfl] at HRES
      dsimp only at CP
      go_enter Tryd.func12, Tryd.ntmps12
      go_upto_region 1 with fail
      have b1 := below_alloc w (.cells #[.int .i64 op, .int .i64 to, .int .i64 a, .int .i64 b, .int .i64 c] 24)
      have IX0 := (Box5.new w 24 ⟨op, to, a, b, c⟩)
      replace IX0 : Hid (Box5 (w.alloc (.cells #[.int .i64 op, .int .i64 to, .int .i64 a, .int .i64 b, .int .i64 c] 24)) (w.heap.size) 24 ⟨op, to, a, b, c⟩) := hide IX0
      have HB := hide b1
      replace HT := hide (HT.out.below b1)
      clear b1
      generalize w.alloc (.cells #[.int .i64 op, .int .i64 to, .int .i64 a, .int .i64 b, .int .i64 c] 24) = w1 at *
      obtain ⟨B0, hB0⟩ : ∃ B, B = w.heap.size := ⟨_, rfl⟩
      have ZB0 := hide hB0
      rw [← hB0] at IX0 ⊢
      clear hB0
      refine wp_calm (fun w' => Below w.heap.size w w' ∧ Box5 w' B0 24 ⟨op, to, a, b, c⟩ ∧ TabW64 w') (fun _ => true) 9 #[false, false, false, false, false, false, false, false, false] (by kernel_rfl) rfl rfl ?_
      have HF := hide (And.intro (HB.out.drew) (And.intro (IX0.out.drew) (HT.out.drew)))
      generalize w1.drew = w1d at *
      refine Calm.takeL 9 (i := 0) (v := ?_) (a' := ?_) (l' := #[true, false, false, false, false, false, false, false, false]) (d := some 3) (by kernel_rfl) rfl (by kernel_rfl) (by kernel_rfl) (by kernel_rfl) (by kernel_rfl) (fun _ _ _ h => h) HF.out rfl ?_ rfl rfl ?_ ?_
      rotate_left
      · intro w' hF; have f10 := hF.2.1.cells.cell0; have f11 := hF.2.1.cells.cell1; have f12 := hF.2.1.cells.cell2; have f13 := hF.2.1.cells.cell3; have f14 := hF.2.1.cells.cell4; simp only [Nat.zero_add] at f11 f12 f13 f14; clear hF; go_simp; try rfl
      rotate_left
      · simp only [Act.put]; exact rfl
      refine Calm.one (i := 1) (l' := #[true, true, false, false, false, false, false, false, false]) (by kernel_rfl) rfl rfl rfl fun K hK => ?_
      go_simp
      refine (fmay_any ⟨op, to, a, b, c⟩ _).mono ?_
      rintro e u1 ⟨rfl, hb⟩
      rw [HMB.out]
      have HF' := hide (And.intro (HF.out.1.trans ((hb).mono HF.out.1.size)) (And.intro (HF.out.2.1.step (hb)) (HF.out.2.2.below (hb))))
      refine hK _ _ (fun _ => HF'.out) ?_
      clear hK K HF hb
      have HF := hide HF'.out
      clear HF'
      refine Calm.takeL 9 (i := 2) (v := ?_) (a' := ?_) (l' := #[true, true, true, false, false, false, false, false, false]) (d := some 5) (by kernel_rfl) rfl (by kernel_rfl) (by kernel_rfl) (by kernel_rfl) (by kernel_rfl) (fun _ _ _ h => h) HF.out rfl ?_ rfl rfl ?_ ?_
      rotate_left
      · intro w' hF; clear hF; go_simp; try rfl
      rotate_left
      · simp only [Act.put]; exact rfl
      refine Calm.takeL 9 (i := 3) (v := ?_) (a' := ?_) (l' := #[true, true, true, true, false, false, false, false, false]) (d := some 6) (by kernel_rfl) rfl (by kernel_rfl) (by kernel_rfl) (by kernel_rfl) (by kernel_rfl) (fun _ _ _ h => h) HF.out (by kernel_rfl) ?_ rfl rfl ?_ ?_
      rotate_left
      · intro w' hF; have f10 := hF.2.1.cells.cell0; have f11 := hF.2.1.cells.cell1; have f12 := hF.2.1.cells.cell2; have f13 := hF.2.1.cells.cell3; have f14 := hF.2.1.cells.cell4; simp only [Nat.zero_add] at f11 f12 f13 f14; clear hF; go_simp; try rfl
      rotate_left
      · simp only [Act.put]; exact rfl
      refine Calm.takeL 9 (i := 5) (v := ?_) (a' := ?_) (l' := #[true, true, true, true, false, true, false, false, false]) (d := some 8) (by kernel_rfl) rfl (by kernel_rfl) (by kernel_rfl) (by kernel_rfl) (by kernel_rfl) (fun _ _ _ h => h) HF.out (by kernel_rfl) ?_ rfl rfl ?_ ?_
      rotate_left
      · intro w' hF; have f10 := hF.2.1.cells.cell0; have f11 := hF.2.1.cells.cell1; have f12 := hF.2.1.cells.cell2; have f13 := hF.2.1.cells.cell3; have f14 := hF.2.1.cells.cell4; simp only [Nat.zero_add] at f11 f12 f13 f14; clear hF; go_simp; try rfl
      rotate_left
      · simp only [Act.put]; exact rfl
      refine Calm.one (i := 4) (l' := #[true, true, true, true, true, true, false, false, false]) (by kernel_rfl) rfl (by kernel_rfl) rfl fun K hK => ?_
      go_simp
      refine (CP.out _ HF.out.2.2).mono ?_
      rintro e u2 ⟨rfl, hb⟩
      have HF' := hide (And.intro (HF.out.1.trans ((hb).mono HF.out.1.size)) (And.intro (HF.out.2.1.step (hb)) (HF.out.2.2.below (hb))))
      refine hK _ _ (fun _ => HF'.out) ?_
      clear hK K HF hb
      have HF := hide HF'.out
      clear HF'
      refine Calm.takeL 9 (i := 6) (v := ?_) (a' := ?_) (l' := #[true, true, true, true, true, true, true, false, false]) (d := some 9) (by kernel_rfl) rfl (by kernel_rfl) (by kernel_rfl) (by kernel_rfl) (by kernel_rfl) (fun _ _ _ h => h) HF.out (by kernel_rfl) ?_ rfl rfl ?_ ?_
      rotate_left
      · intro w' hF; clear hF; go_simp; try rfl
      rotate_left
      · simp only [Act.put]; exact rfl
      refine Calm.takeL 9 (i := 7) (v := ?_) (a' := ?_) (l' := #[true, true, true, true, true, true, true, true, false]) (d := some 10) (by kernel_rfl) rfl (by kernel_rfl) (by kernel_rfl) (by kernel_rfl) (by kernel_rfl) (fun _ _ _ h => h) HF.out rfl ?_ rfl rfl ?_ ?_
      rotate_left
      · intro w' hF; clear hF; go_simp; try rfl
      rotate_left
      · simp only [Act.put]; exact rfl
      refine Calm.takeL 9 (i := 8) (v := ?_) (a' := ?_) (l' := #[true, true, true, true, true, true, true, true, true]) (d := some 2) (by kernel_rfl) rfl (by kernel_rfl) (by kernel_rfl) (by kernel_rfl) (by kernel_rfl) (fun _ _ _ h => h) HF.out rfl ?_ rfl rfl ?_ ?_
      rotate_left
      · intro w' hF; clear hF; go_simp; try rfl
      rotate_left
      · simp only [Act.put]; exact rfl
      refine Calm.done (by kernel_rfl) ?_
      replace HB := hide HF.out.1
      clear HF
      go_wp2
      go_ret
      exact ⟨by first | (rw [HRES.out]; rfl) | (rw [HRES.out]; simp), HB.out⟩
    · rw [eqI_no hy] at HRES
      have hy2 := ins_ne hy
      clear hy
      obtain ⟨yo, yt, ya, yb, yc⟩ := y
      dsimp only at hy2 CP
      rcases hy2 with e | ⟨e1, e⟩ | ⟨e1, e2, e⟩ | ⟨e1, e2, e3, e⟩ | ⟨e1, e2, e3, e4, e⟩
      · have q0 : (yo == op) = false := by simpa using e
        clear e
        go_enter Tryd.func12, Tryd.ntmps12
        go_upto_region 1 with fail
        have b1 := below_alloc w (.cells #[.int .i64 op, .int .i64 to, .int .i64 a, .int .i64 b, .int .i64 c] 24)
        have IX0 := (Box5.new w 24 ⟨op, to, a, b, c⟩)
        replace IX0 : Hid (Box5 (w.alloc (.cells #[.int .i64 op, .int .i64 to, .int .i64 a, .int .i64 b, .int .i64 c] 24)) (w.heap.size) 24 ⟨op, to, a, b, c⟩) := hide IX0
        have HB := hide b1
        replace HT := hide (HT.out.below b1)
        clear b1
        generalize w.alloc (.cells #[.int .i64 op, .int .i64 to, .int .i64 a, .int .i64 b, .int .i64 c] 24) = w1 at *
        obtain ⟨B0, hB0⟩ : ∃ B, B = w.heap.size := ⟨_, rfl⟩
        have ZB0 := hide hB0
        rw [← hB0] at IX0 ⊢
        clear hB0
        refine wp_calm (fun w' => Below w.heap.size w w' ∧ Box5 w' B0 24 ⟨op, to, a, b, c⟩ ∧ TabW64 w') (fun _ => true) 9 #[false, false, false, false, false, false, false, false, false] (by kernel_rfl) rfl rfl ?_
        have HF := hide (And.intro (HB.out.drew) (And.intro (IX0.out.drew) (HT.out.drew)))
        generalize w1.drew = w1d at *
        refine Calm.takeL 9 (i := 0) (v := ?_) (a' := ?_) (l' := #[true, false, false, false, false, false, false, false, false]) (d := some 3) (by kernel_rfl) rfl (by kernel_rfl) (by kernel_rfl) (by kernel_rfl) (by kernel_rfl) (fun _ _ _ h => h) HF.out rfl ?_ rfl rfl ?_ ?_
        rotate_left
        · intro w' hF; have f10 := hF.2.1.cells.cell0; have f11 := hF.2.1.cells.cell1; have f12 := hF.2.1.cells.cell2; have f13 := hF.2.1.cells.cell3; have f14 := hF.2.1.cells.cell4; simp only [Nat.zero_add] at f11 f12 f13 f14; clear hF; go_simp; try rfl
        rotate_left
        · simp only [Act.put]; exact rfl
        refine Calm.one (i := 1) (l' := #[true, true, false, false, false, false, false, false, false]) (by kernel_rfl) rfl rfl rfl fun K hK => ?_
        go_simp
        refine (fmay_any ⟨op, to, a, b, c⟩ _).mono ?_
        rintro e u1 ⟨rfl, hb⟩
        rw [HMB.out]
        have HF' := hide (And.intro (HF.out.1.trans ((hb).mono HF.out.1.size)) (And.intro (HF.out.2.1.step (hb)) (HF.out.2.2.below (hb))))
        refine hK _ _ (fun _ => HF'.out) ?_
        clear hK K HF hb
        have HF := hide HF'.out
        clear HF'
        refine Calm.takeL 9 (i := 2) (v := ?_) (a' := ?_) (l' := #[true, true, true, false, false, false, false, false, false]) (d := some 5) (by kernel_rfl) rfl (by kernel_rfl) (by kernel_rfl) (by kernel_rfl) (by kernel_rfl) (fun _ _ _ h => h) HF.out rfl ?_ rfl rfl ?_ ?_
        rotate_left
        · intro w' hF; clear hF; go_simp; try rfl
        rotate_left
        · simp only [Act.put]; exact rfl
        refine Calm.takeL 9 (i := 3) (v := ?_) (a' := ?_) (l' := #[true, true, true, true, false, false, false, false, false]) (d := some 6) (by kernel_rfl) rfl (by kernel_rfl) (by kernel_rfl) (by kernel_rfl) (by kernel_rfl) (fun _ _ _ h => h) HF.out (by kernel_rfl) ?_ rfl rfl ?_ ?_
        rotate_left
        · intro w' hF; have f10 := hF.2.1.cells.cell0; have f11 := hF.2.1.cells.cell1; have f12 := hF.2.1.cells.cell2; have f13 := hF.2.1.cells.cell3; have f14 := hF.2.1.cells.cell4; simp only [Nat.zero_add] at f11 f12 f13 f14; clear hF; go_simp; try rfl
        rotate_left
        · simp only [Act.put]; exact rfl
        refine Calm.takeL 9 (i := 5) (v := ?_) (a' := ?_) (l' := #[true, true, true, true, false, true, false, false, false]) (d := some 8) (by kernel_rfl) rfl (by kernel_rfl) (by kernel_rfl) (by kernel_rfl) (by kernel_rfl) (fun _ _ _ h => h) HF.out (by kernel_rfl) ?_ rfl rfl ?_ ?_
        rotate_left
        · intro w' hF; have f10 := hF.2.1.cells.cell0; have f11 := hF.2.1.cells.cell1; have f12 := hF.2.1.cells.cell2; have f13 := hF.2.1.cells.cell3; have f14 := hF.2.1.cells.cell4; simp only [Nat.zero_add] at f11 f12 f13 f14; clear hF; go_simp; try rfl
        rotate_left
        · simp only [Act.put]; exact rfl
        refine Calm.one (i := 4) (l' := #[true, true, true, true, true, true, false, false, false]) (by kernel_rfl) rfl (by kernel_rfl) rfl fun K hK => ?_
        go_simp
        refine (CP.out _ HF.out.2.2).mono ?_
        rintro e u2 ⟨rfl, hb⟩
        have HF' := hide (And.intro (HF.out.1.trans ((hb).mono HF.out.1.size)) (And.intro (HF.out.2.1.step (hb)) (HF.out.2.2.below (hb))))
        refine hK _ _ (fun _ => HF'.out) ?_
        clear hK K HF hb
        have HF := hide HF'.out
        clear HF'
        refine Calm.takeL 9 (i := 6) (v := ?_) (a' := ?_) (l' := #[true, true, true, true, true, true, true, false, false]) (d := some 9) (by kernel_rfl) rfl (by kernel_rfl) (by kernel_rfl) (by kernel_rfl) (by kernel_rfl) (fun _ _ _ h => h) HF.out (by kernel_rfl) ?_ rfl rfl ?_ ?_
        rotate_left
        · intro w' hF; clear hF; go_simp; try rfl
        rotate_left
        · simp only [Act.put]; exact rfl
        refine Calm.takeL 9 (i := 7) (v := ?_) (a' := ?_) (l' := #[true, true, true, true, true, true, true, true, false]) (d := some 10) (by kernel_rfl) rfl (by kernel_rfl) (by kernel_rfl) (by kernel_rfl) (by kernel_rfl) (fun _ _ _ h => h) HF.out rfl ?_ rfl rfl ?_ ?_
        rotate_left
        · intro w' hF; clear hF; go_simp; try rfl
        rotate_left
        · simp only [Act.put]; exact rfl
        refine Calm.takeL 9 (i := 8) (v := ?_) (a' := ?_) (l' := #[true, true, true, true, true, true, true, true, true]) (d := some 2) (by kernel_rfl) rfl (by kernel_rfl) (by kernel_rfl) (by kernel_rfl) (by kernel_rfl) (fun _ _ _ h => h) HF.out rfl ?_ rfl rfl ?_ ?_
        rotate_left
        · intro w' hF; clear hF; go_simp; try rfl
        rotate_left
        · simp only [Act.put]; exact rfl
        refine Calm.done (by kernel_rfl) ?_
        replace HB := hide HF.out.1
        clear HF
        go_wp2
        go_ret
        exact ⟨by first | (rw [HRES.out]; rfl) | (rw [HRES.out]; simp), HB.out⟩
      · have q0 : (yt == to) = false := by simpa using e
        clear e
        replace e1 := e1.symm
        subst e1
        go_enter Tryd.func12, Tryd.ntmps12
        go_upto_region 1 with fail
        have b1 := below_alloc w (.cells #[.int .i64 op, .int .i64 to, .int .i64 a, .int .i64 b, .int .i64 c] 24)
        have IX0 := (Box5.new w 24 ⟨op, to, a, b, c⟩)
        replace IX0 : Hid (Box5 (w.alloc (.cells #[.int .i64 op, .int .i64 to, .int .i64 a, .int .i64 b, .int .i64 c] 24)) (w.heap.size) 24 ⟨op, to, a, b, c⟩) := hide IX0
        have HB := hide b1
        replace HT := hide (HT.out.below b1)
        clear b1
        generalize w.alloc (.cells #[.int .i64 op, .int .i64 to, .int .i64 a, .int .i64 b, .int .i64 c] 24) = w1 at *
        obtain ⟨B0, hB0⟩ : ∃ B, B = w.heap.size := ⟨_, rfl⟩
        have ZB0 := hide hB0
        rw [← hB0] at IX0 ⊢
        clear hB0
        refine wp_calm (fun w' => Below w.heap.size w w' ∧ Box5 w' B0 24 ⟨op, to, a, b, c⟩ ∧ TabW64 w') (fun _ => true) 9 #[false, false, false, false, false, false, false, false, false] (by kernel_rfl) rfl rfl ?_
        have HF := hide (And.intro (HB.out.drew) (And.intro (IX0.out.drew) (HT.out.drew)))
        generalize w1.drew = w1d at *
        refine Calm.takeL 9 (i := 0) (v := ?_) (a' := ?_) (l' := #[true, false, false, false, false, false, false, false, false]) (d := some 3) (by kernel_rfl) rfl (by kernel_rfl) (by kernel_rfl) (by kernel_rfl) (by kernel_rfl) (fun _ _ _ h => h) HF.out rfl ?_ rfl rfl ?_ ?_
        rotate_left
        · intro w' hF; have f10 := hF.2.1.cells.cell0; have f11 := hF.2.1.cells.cell1; have f12 := hF.2.1.cells.cell2; have f13 := hF.2.1.cells.cell3; have f14 := hF.2.1.cells.cell4; simp only [Nat.zero_add] at f11 f12 f13 f14; clear hF; go_simp; try rfl
        rotate_left
        · simp only [Act.put]; exact rfl
        refine Calm.one (i := 1) (l' := #[true, true, false, false, false, false, false, false, false]) (by kernel_rfl) rfl rfl rfl fun K hK => ?_
        go_simp
        refine (fmay_any ⟨op, to, a, b, c⟩ _).mono ?_
        rintro e u1 ⟨rfl, hb⟩
        rw [HMB.out]
        have HF' := hide (And.intro (HF.out.1.trans ((hb).mono HF.out.1.size)) (And.intro (HF.out.2.1.step (hb)) (HF.out.2.2.below (hb))))
        refine hK _ _ (fun _ => HF'.out) ?_
        clear hK K HF hb
        have HF := hide HF'.out
        clear HF'
        refine Calm.takeL 9 (i := 2) (v := ?_) (a' := ?_) (l' := #[true, true, true, false, false, false, false, false, false]) (d := some 5) (by kernel_rfl) rfl (by kernel_rfl) (by kernel_rfl) (by kernel_rfl) (by kernel_rfl) (fun _ _ _ h => h) HF.out rfl ?_ rfl rfl ?_ ?_
        rotate_left
        · intro w' hF; clear hF; go_simp; try rfl
        rotate_left
        · simp only [Act.put]; exact rfl
        refine Calm.takeL 9 (i := 3) (v := ?_) (a' := ?_) (l' := #[true, true, true, true, false, false, false, false, false]) (d := some 6) (by kernel_rfl) rfl (by kernel_rfl) (by kernel_rfl) (by kernel_rfl) (by kernel_rfl) (fun _ _ _ h => h) HF.out (by kernel_rfl) ?_ rfl rfl ?_ ?_
        rotate_left
        · intro w' hF; have f10 := hF.2.1.cells.cell0; have f11 := hF.2.1.cells.cell1; have f12 := hF.2.1.cells.cell2; have f13 := hF.2.1.cells.cell3; have f14 := hF.2.1.cells.cell4; simp only [Nat.zero_add] at f11 f12 f13 f14; clear hF; go_simp; try rfl
        rotate_left
        · simp only [Act.put]; exact rfl
        refine Calm.takeL 9 (i := 5) (v := ?_) (a' := ?_) (l' := #[true, true, true, true, false, true, false, false, false]) (d := some 8) (by kernel_rfl) rfl (by kernel_rfl) (by kernel_rfl) (by kernel_rfl) (by kernel_rfl) (fun _ _ _ h => h) HF.out (by kernel_rfl) ?_ rfl rfl ?_ ?_
        rotate_left
        · intro w' hF; have f10 := hF.2.1.cells.cell0; have f11 := hF.2.1.cells.cell1; have f12 := hF.2.1.cells.cell2; have f13 := hF.2.1.cells.cell3; have f14 := hF.2.1.cells.cell4; simp only [Nat.zero_add] at f11 f12 f13 f14; clear hF; go_simp; try rfl
        rotate_left
        · simp only [Act.put]; exact rfl
        refine Calm.one (i := 4) (l' := #[true, true, true, true, true, true, false, false, false]) (by kernel_rfl) rfl (by kernel_rfl) rfl fun K hK => ?_
        go_simp
        refine (CP.out _ HF.out.2.2).mono ?_
        rintro e u2 ⟨rfl, hb⟩
        have HF' := hide (And.intro (HF.out.1.trans ((hb).mono HF.out.1.size)) (And.intro (HF.out.2.1.step (hb)) (HF.out.2.2.below (hb))))
        refine hK _ _ (fun _ => HF'.out) ?_
        clear hK K HF hb
        have HF := hide HF'.out
        clear HF'
        refine Calm.takeL 9 (i := 6) (v := ?_) (a' := ?_) (l' := #[true, true, true, true, true, true, true, false, false]) (d := some 9) (by kernel_rfl) rfl (by kernel_rfl) (by kernel_rfl) (by kernel_rfl) (by kernel_rfl) (fun _ _ _ h => h) HF.out (by kernel_rfl) ?_ rfl rfl ?_ ?_
        rotate_left
        · intro w' hF; clear hF; go_simp; try rfl
        rotate_left
        · simp only [Act.put]; exact rfl
        refine Calm.takeL 9 (i := 7) (v := ?_) (a' := ?_) (l' := #[true, true, true, true, true, true, true, true, false]) (d := some 10) (by kernel_rfl) rfl (by kernel_rfl) (by kernel_rfl) (by kernel_rfl) (by kernel_rfl) (fun _ _ _ h => h) HF.out rfl ?_ rfl rfl ?_ ?_
        rotate_left
        · intro w' hF; clear hF; go_simp; try rfl
        rotate_left
        · simp only [Act.put]; exact rfl
        refine Calm.takeL 9 (i := 8) (v := ?_) (a' := ?_) (l' := #[true, true, true, true, true, true, true, true, true]) (d := some 2) (by kernel_rfl) rfl (by kernel_rfl) (by kernel_rfl) (by kernel_rfl) (by kernel_rfl) (fun _ _ _ h => h) HF.out rfl ?_ rfl rfl ?_ ?_
        rotate_left
        · intro w' hF; clear hF; go_simp; try rfl
        rotate_left
        · simp only [Act.put]; exact rfl
        refine Calm.done (by kernel_rfl) ?_
        replace HB := hide HF.out.1
        clear HF
        go_wp2
        go_ret
        exact ⟨by first | (rw [HRES.out]; rfl) | (rw [HRES.out]; simp), HB.out⟩
      · have q0 : (ya == a) = false := by simpa using e
        clear e
        replace e1 := e1.symm
        subst e1
        replace e2 := e2.symm
        subst e2
        go_enter Tryd.func12, Tryd.ntmps12
        go_upto_region 1 with fail
        have b1 := below_alloc w (.cells #[.int .i64 op, .int .i64 to, .int .i64 a, .int .i64 b, .int .i64 c] 24)
        have IX0 := (Box5.new w 24 ⟨op, to, a, b, c⟩)
        replace IX0 : Hid (Box5 (w.alloc (.cells #[.int .i64 op, .int .i64 to, .int .i64 a, .int .i64 b, .int .i64 c] 24)) (w.heap.size) 24 ⟨op, to, a, b, c⟩) := hide IX0
        have HB := hide b1
        replace HT := hide (HT.out.below b1)
        clear b1
        generalize w.alloc (.cells #[.int .i64 op, .int .i64 to, .int .i64 a, .int .i64 b, .int .i64 c] 24) = w1 at *
        obtain ⟨B0, hB0⟩ : ∃ B, B = w.heap.size := ⟨_, rfl⟩
        have ZB0 := hide hB0
        rw [← hB0] at IX0 ⊢
        clear hB0
        refine wp_calm (fun w' => Below w.heap.size w w' ∧ Box5 w' B0 24 ⟨op, to, a, b, c⟩ ∧ TabW64 w') (fun _ => true) 9 #[false, false, false, false, false, false, false, false, false] (by kernel_rfl) rfl rfl ?_
        have HF := hide (And.intro (HB.out.drew) (And.intro (IX0.out.drew) (HT.out.drew)))
        generalize w1.drew = w1d at *
        refine Calm.takeL 9 (i := 0) (v := ?_) (a' := ?_) (l' := #[true, false, false, false, false, false, false, false, false]) (d := some 3) (by kernel_rfl) rfl (by kernel_rfl) (by kernel_rfl) (by kernel_rfl) (by kernel_rfl) (fun _ _ _ h => h) HF.out rfl ?_ rfl rfl ?_ ?_
        rotate_left
        · intro w' hF; have f10 := hF.2.1.cells.cell0; have f11 := hF.2.1.cells.cell1; have f12 := hF.2.1.cells.cell2; have f13 := hF.2.1.cells.cell3; have f14 := hF.2.1.cells.cell4; simp only [Nat.zero_add] at f11 f12 f13 f14; clear hF; go_simp; try rfl
        rotate_left
        · simp only [Act.put]; exact rfl
        refine Calm.one (i := 1) (l' := #[true, true, false, false, false, false, false, false, false]) (by kernel_rfl) rfl rfl rfl fun K hK => ?_
        go_simp
        refine (fmay_any ⟨op, to, a, b, c⟩ _).mono ?_
        rintro e u1 ⟨rfl, hb⟩
        rw [HMB.out]
        have HF' := hide (And.intro (HF.out.1.trans ((hb).mono HF.out.1.size)) (And.intro (HF.out.2.1.step (hb)) (HF.out.2.2.below (hb))))
        refine hK _ _ (fun _ => HF'.out) ?_
        clear hK K HF hb
        have HF := hide HF'.out
        clear HF'
        refine Calm.takeL 9 (i := 2) (v := ?_) (a' := ?_) (l' := #[true, true, true, false, false, false, false, false, false]) (d := some 5) (by kernel_rfl) rfl (by kernel_rfl) (by kernel_rfl) (by kernel_rfl) (by kernel_rfl) (fun _ _ _ h => h) HF.out rfl ?_ rfl rfl ?_ ?_
        rotate_left
        · intro w' hF; clear hF; go_simp; try rfl
        rotate_left
        · simp only [Act.put]; exact rfl
        refine Calm.takeL 9 (i := 3) (v := ?_) (a' := ?_) (l' := #[true, true, true, true, false, false, false, false, false]) (d := some 6) (by kernel_rfl) rfl (by kernel_rfl) (by kernel_rfl) (by kernel_rfl) (by kernel_rfl) (fun _ _ _ h => h) HF.out (by kernel_rfl) ?_ rfl rfl ?_ ?_
        rotate_left
        · intro w' hF; have f10 := hF.2.1.cells.cell0; have f11 := hF.2.1.cells.cell1; have f12 := hF.2.1.cells.cell2; have f13 := hF.2.1.cells.cell3; have f14 := hF.2.1.cells.cell4; simp only [Nat.zero_add] at f11 f12 f13 f14; clear hF; go_simp; try rfl
        rotate_left
        · simp only [Act.put]; exact rfl
        refine Calm.takeL 9 (i := 5) (v := ?_) (a' := ?_) (l' := #[true, true, true, true, false, true, false, false, false]) (d := some 8) (by kernel_rfl) rfl (by kernel_rfl) (by kernel_rfl) (by kernel_rfl) (by kernel_rfl) (fun _ _ _ h => h) HF.out (by kernel_rfl) ?_ rfl rfl ?_ ?_
        rotate_left
        · intro w' hF; have f10 := hF.2.1.cells.cell0; have f11 := hF.2.1.cells.cell1; have f12 := hF.2.1.cells.cell2; have f13 := hF.2.1.cells.cell3; have f14 := hF.2.1.cells.cell4; simp only [Nat.zero_add] at f11 f12 f13 f14; clear hF; go_simp; try rfl
        rotate_left
        · simp only [Act.put]; exact rfl
        refine Calm.one (i := 4) (l' := #[true, true, true, true, true, true, false, false, false]) (by kernel_rfl) rfl (by kernel_rfl) rfl fun K hK => ?_
        go_simp
        refine (CP.out _ HF.out.2.2).mono ?_
        rintro e u2 ⟨rfl, hb⟩
        have HF' := hide (And.intro (HF.out.1.trans ((hb).mono HF.out.1.size)) (And.intro (HF.out.2.1.step (hb)) (HF.out.2.2.below (hb))))
        refine hK _ _ (fun _ => HF'.out) ?_
        clear hK K HF hb
        have HF := hide HF'.out
        clear HF'
        refine Calm.takeL 9 (i := 6) (v := ?_) (a' := ?_) (l' := #[true, true, true, true, true, true, true, false, false]) (d := some 9) (by kernel_rfl) rfl (by kernel_rfl) (by kernel_rfl) (by kernel_rfl) (by kernel_rfl) (fun _ _ _ h => h) HF.out (by kernel_rfl) ?_ rfl rfl ?_ ?_
        rotate_left
        · intro w' hF; clear hF; go_simp; try rfl
        rotate_left
        · simp only [Act.put]; exact rfl
        refine Calm.takeL 9 (i := 7) (v := ?_) (a' := ?_) (l' := #[true, true, true, true, true, true, true, true, false]) (d := some 10) (by kernel_rfl) rfl (by kernel_rfl) (by kernel_rfl) (by kernel_rfl) (by kernel_rfl) (fun _ _ _ h => h) HF.out rfl ?_ rfl rfl ?_ ?_
        rotate_left
        · intro w' hF; clear hF; go_simp; try rfl
        rotate_left
        · simp only [Act.put]; exact rfl
        refine Calm.takeL 9 (i := 8) (v := ?_) (a' := ?_) (l' := #[true, true, true, true, true, true, true, true, true]) (d := some 2) (by kernel_rfl) rfl (by kernel_rfl) (by kernel_rfl) (by kernel_rfl) (by kernel_rfl) (fun _ _ _ h => h) HF.out rfl ?_ rfl rfl ?_ ?_
        rotate_left
        · intro w' hF; clear hF; go_simp; try rfl
        rotate_left
        · simp only [Act.put]; exact rfl
        refine Calm.done (by kernel_rfl) ?_
        replace HB := hide HF.out.1
        clear HF
        go_wp2
        go_ret
        exact ⟨by first | (rw [HRES.out]; rfl) | (rw [HRES.out]; simp), HB.out⟩
      · have q0 : (yb == b) = false := by simpa using e
        clear e
        replace e1 := e1.symm
        subst e1
        replace e2 := e2.symm
        subst e2
        replace e3 := e3.symm
        subst e3
        go_enter Tryd.func12, Tryd.ntmps12
        go_upto_region 1 with fail
        have b1 := below_alloc w (.cells #[.int .i64 op, .int .i64 to, .int .i64 a, .int .i64 b, .int .i64 c] 24)
        have IX0 := (Box5.new w 24 ⟨op, to, a, b, c⟩)
        replace IX0 : Hid (Box5 (w.alloc (.cells #[.int .i64 op, .int .i64 to, .int .i64 a, .int .i64 b, .int .i64 c] 24)) (w.heap.size) 24 ⟨op, to, a, b, c⟩) := hide IX0
        have HB := hide b1
        replace HT := hide (HT.out.below b1)
        clear b1
        generalize w.alloc (.cells #[.int .i64 op, .int .i64 to, .int .i64 a, .int .i64 b, .int .i64 c] 24) = w1 at *
        obtain ⟨B0, hB0⟩ : ∃ B, B = w.heap.size := ⟨_, rfl⟩
        have ZB0 := hide hB0
        rw [← hB0] at IX0 ⊢
        clear hB0
        refine wp_calm (fun w' => Below w.heap.size w w' ∧ Box5 w' B0 24 ⟨op, to, a, b, c⟩ ∧ TabW64 w') (fun _ => true) 9 #[false, false, false, false, false, false, false, false, false] (by kernel_rfl) rfl rfl ?_
        have HF := hide (And.intro (HB.out.drew) (And.intro (IX0.out.drew) (HT.out.drew)))
        generalize w1.drew = w1d at *
        refine Calm.takeL 9 (i := 0) (v := ?_) (a' := ?_) (l' := #[true, false, false, false, false, false, false, false, false]) (d := some 3) (by kernel_rfl) rfl (by kernel_rfl) (by kernel_rfl) (by kernel_rfl) (by kernel_rfl) (fun _ _ _ h => h) HF.out rfl ?_ rfl rfl ?_ ?_
        rotate_left
        · intro w' hF; have f10 := hF.2.1.cells.cell0; have f11 := hF.2.1.cells.cell1; have f12 := hF.2.1.cells.cell2; have f13 := hF.2.1.cells.cell3; have f14 := hF.2.1.cells.cell4; simp only [Nat.zero_add] at f11 f12 f13 f14; clear hF; go_simp; try rfl
        rotate_left
        · simp only [Act.put]; exact rfl
        refine Calm.one (i := 1) (l' := #[true, true, false, false, false, false, false, false, false]) (by kernel_rfl) rfl rfl rfl fun K hK => ?_
        go_simp
        refine (fmay_any ⟨op, to, a, b, c⟩ _).mono ?_
        rintro e u1 ⟨rfl, hb⟩
        rw [HMB.out]
        have HF' := hide (And.intro (HF.out.1.trans ((hb).mono HF.out.1.size)) (And.intro (HF.out.2.1.step (hb)) (HF.out.2.2.below (hb))))
        refine hK _ _ (fun _ => HF'.out) ?_
        clear hK K HF hb
        have HF := hide HF'.out
        clear HF'
        refine Calm.takeL 9 (i := 2) (v := ?_) (a' := ?_) (l' := #[true, true, true, false, false, false, false, false, false]) (d := some 5) (by kernel_rfl) rfl (by kernel_rfl) (by kernel_rfl) (by kernel_rfl) (by kernel_rfl) (fun _ _ _ h => h) HF.out rfl ?_ rfl rfl ?_ ?_
        rotate_left
        · intro w' hF; clear hF; go_simp; try rfl
        rotate_left
        · simp only [Act.put]; exact rfl
        refine Calm.takeL 9 (i := 3) (v := ?_) (a' := ?_) (l' := #[true, true, true, true, false, false, false, false, false]) (d := some 6) (by kernel_rfl) rfl (by kernel_rfl) (by kernel_rfl) (by kernel_rfl) (by kernel_rfl) (fun _ _ _ h => h) HF.out (by kernel_rfl) ?_ rfl rfl ?_ ?_
        rotate_left
        · intro w' hF; have f10 := hF.2.1.cells.cell0; have f11 := hF.2.1.cells.cell1; have f12 := hF.2.1.cells.cell2; have f13 := hF.2.1.cells.cell3; have f14 := hF.2.1.cells.cell4; simp only [Nat.zero_add] at f11 f12 f13 f14; clear hF; go_simp; try rfl
        rotate_left
        · simp only [Act.put]; exact rfl
        refine Calm.takeL 9 (i := 5) (v := ?_) (a' := ?_) (l' := #[true, true, true, true, false, true, false, false, false]) (d := some 8) (by kernel_rfl) rfl (by kernel_rfl) (by kernel_rfl) (by kernel_rfl) (by kernel_rfl) (fun _ _ _ h => h) HF.out (by kernel_rfl) ?_ rfl rfl ?_ ?_
        rotate_left
        · intro w' hF; have f10 := hF.2.1.cells.cell0; have f11 := hF.2.1.cells.cell1; have f12 := hF.2.1.cells.cell2; have f13 := hF.2.1.cells.cell3; have f14 := hF.2.1.cells.cell4; simp only [Nat.zero_add] at f11 f12 f13 f14; clear hF; go_simp; try rfl
        rotate_left
        · simp only [Act.put]; exact rfl
        refine Calm.one (i := 4) (l' := #[true, true, true, true, true, true, false, false, false]) (by kernel_rfl) rfl (by kernel_rfl) rfl fun K hK => ?_
        go_simp
        refine (CP.out _ HF.out.2.2).mono ?_
        rintro e u2 ⟨rfl, hb⟩
        have HF' := hide (And.intro (HF.out.1.trans ((hb).mono HF.out.1.size)) (And.intro (HF.out.2.1.step (hb)) (HF.out.2.2.below (hb))))
        refine hK _ _ (fun _ => HF'.out) ?_
        clear hK K HF hb
        have HF := hide HF'.out
        clear HF'
        refine Calm.takeL 9 (i := 6) (v := ?_) (a' := ?_) (l' := #[true, true, true, true, true, true, true, false, false]) (d := some 9) (by kernel_rfl) rfl (by kernel_rfl) (by kernel_rfl) (by kernel_rfl) (by kernel_rfl) (fun _ _ _ h => h) HF.out (by kernel_rfl) ?_ rfl rfl ?_ ?_
        rotate_left
        · intro w' hF; clear hF; go_simp; try rfl
        rotate_left
        · simp only [Act.put]; exact rfl
        refine Calm.takeL 9 (i := 7) (v := ?_) (a' := ?_) (l' := #[true, true, true, true, true, true, true, true, false]) (d := some 10) (by kernel_rfl) rfl (by kernel_rfl) (by kernel_rfl) (by kernel_rfl) (by kernel_rfl) (fun _ _ _ h => h) HF.out rfl ?_ rfl rfl ?_ ?_
        rotate_left
        · intro w' hF; clear hF; go_simp; try rfl
        rotate_left
        · simp only [Act.put]; exact rfl
        refine Calm.takeL 9 (i := 8) (v := ?_) (a' := ?_) (l' := #[true, true, true, true, true, true, true, true, true]) (d := some 2) (by kernel_rfl) rfl (by kernel_rfl) (by kernel_rfl) (by kernel_rfl) (by kernel_rfl) (fun _ _ _ h => h) HF.out rfl ?_ rfl rfl ?_ ?_
        rotate_left
        · intro w' hF; clear hF; go_simp; try rfl
        rotate_left
        · simp only [Act.put]; exact rfl
        refine Calm.done (by kernel_rfl) ?_
        replace HB := hide HF.out.1
        clear HF
        go_wp2
        go_ret
        exact ⟨by first | (rw [HRES.out]; rfl) | (rw [HRES.out]; simp), HB.out⟩
      · have q0 : (yc == c) = false := by simpa using e
        clear e
        replace e1 := e1.symm
        subst e1
        replace e2 := e2.symm
        subst e2
        replace e3 := e3.symm
        subst e3
        replace e4 := e4.symm
        subst e4
        go_enter Tryd.func12, Tryd.ntmps12
        go_upto_region 1 with fail
        have b1 := below_alloc w (.cells #[.int .i64 op, .int .i64 to, .int .i64 a, .int .i64 b, .int .i64 c] 24)
        have IX0 := (Box5.new w 24 ⟨op, to, a, b, c⟩)
        replace IX0 : Hid (Box5 (w.alloc (.cells #[.int .i64 op, .int .i64 to, .int .i64 a, .int .i64 b, .int .i64 c] 24)) (w.heap.size) 24 ⟨op, to, a, b, c⟩) := hide IX0
        have HB := hide b1
        replace HT := hide (HT.out.below b1)
        clear b1
        generalize w.alloc (.cells #[.int .i64 op, .int .i64 to, .int .i64 a, .int .i64 b, .int .i64 c] 24) = w1 at *
        obtain ⟨B0, hB0⟩ : ∃ B, B = w.heap.size := ⟨_, rfl⟩
        have ZB0 := hide hB0
        rw [← hB0] at IX0 ⊢
        clear hB0
        refine wp_calm (fun w' => Below w.heap.size w w' ∧ Box5 w' B0 24 ⟨op, to, a, b, c⟩ ∧ TabW64 w') (fun _ => true) 9 #[false, false, false, false, false, false, false, false, false] (by kernel_rfl) rfl rfl ?_
        have HF := hide (And.intro (HB.out.drew) (And.intro (IX0.out.drew) (HT.out.drew)))
        generalize w1.drew = w1d at *
        refine Calm.takeL 9 (i := 0) (v := ?_) (a' := ?_) (l' := #[true, false, false, false, false, false, false, false, false]) (d := some 3) (by kernel_rfl) rfl (by kernel_rfl) (by kernel_rfl) (by kernel_rfl) (by kernel_rfl) (fun _ _ _ h => h) HF.out rfl ?_ rfl rfl ?_ ?_
        rotate_left
        · intro w' hF; have f10 := hF.2.1.cells.cell0; have f11 := hF.2.1.cells.cell1; have f12 := hF.2.1.cells.cell2; have f13 := hF.2.1.cells.cell3; have f14 := hF.2.1.cells.cell4; simp only [Nat.zero_add] at f11 f12 f13 f14; clear hF; go_simp; try rfl
        rotate_left
        · simp only [Act.put]; exact rfl
        refine Calm.one (i := 1) (l' := #[true, true, false, false, false, false, false, false, false]) (by kernel_rfl) rfl rfl rfl fun K hK => ?_
        go_simp
        refine (fmay_any ⟨op, to, a, b, c⟩ _).mono ?_
        rintro e u1 ⟨rfl, hb⟩
        rw [HMB.out]
        have HF' := hide (And.intro (HF.out.1.trans ((hb).mono HF.out.1.size)) (And.intro (HF.out.2.1.step (hb)) (HF.out.2.2.below (hb))))
        refine hK _ _ (fun _ => HF'.out) ?_
        clear hK K HF hb
        have HF := hide HF'.out
        clear HF'
        refine Calm.takeL 9 (i := 2) (v := ?_) (a' := ?_) (l' := #[true, true, true, false, false, false, false, false, false]) (d := some 5) (by kernel_rfl) rfl (by kernel_rfl) (by kernel_rfl) (by kernel_rfl) (by kernel_rfl) (fun _ _ _ h => h) HF.out rfl ?_ rfl rfl ?_ ?_
        rotate_left
        · intro w' hF; clear hF; go_simp; try rfl
        rotate_left
        · simp only [Act.put]; exact rfl
        refine Calm.takeL 9 (i := 3) (v := ?_) (a' := ?_) (l' := #[true, true, true, true, false, false, false, false, false]) (d := some 6) (by kernel_rfl) rfl (by kernel_rfl) (by kernel_rfl) (by kernel_rfl) (by kernel_rfl) (fun _ _ _ h => h) HF.out (by kernel_rfl) ?_ rfl rfl ?_ ?_
        rotate_left
        · intro w' hF; have f10 := hF.2.1.cells.cell0; have f11 := hF.2.1.cells.cell1; have f12 := hF.2.1.cells.cell2; have f13 := hF.2.1.cells.cell3; have f14 := hF.2.1.cells.cell4; simp only [Nat.zero_add] at f11 f12 f13 f14; clear hF; go_simp; try rfl
        rotate_left
        · simp only [Act.put]; exact rfl
        refine Calm.takeL 9 (i := 5) (v := ?_) (a' := ?_) (l' := #[true, true, true, true, false, true, false, false, false]) (d := some 8) (by kernel_rfl) rfl (by kernel_rfl) (by kernel_rfl) (by kernel_rfl) (by kernel_rfl) (fun _ _ _ h => h) HF.out (by kernel_rfl) ?_ rfl rfl ?_ ?_
        rotate_left
        · intro w' hF; have f10 := hF.2.1.cells.cell0; have f11 := hF.2.1.cells.cell1; have f12 := hF.2.1.cells.cell2; have f13 := hF.2.1.cells.cell3; have f14 := hF.2.1.cells.cell4; simp only [Nat.zero_add] at f11 f12 f13 f14; clear hF; go_simp; try rfl
        rotate_left
        · simp only [Act.put]; exact rfl
        refine Calm.one (i := 4) (l' := #[true, true, true, true, true, true, false, false, false]) (by kernel_rfl) rfl (by kernel_rfl) rfl fun K hK => ?_
        go_simp
        refine (CP.out _ HF.out.2.2).mono ?_
        rintro e u2 ⟨rfl, hb⟩
        have HF' := hide (And.intro (HF.out.1.trans ((hb).mono HF.out.1.size)) (And.intro (HF.out.2.1.step (hb)) (HF.out.2.2.below (hb))))
        refine hK _ _ (fun _ => HF'.out) ?_
        clear hK K HF hb
        have HF := hide HF'.out
        clear HF'
        refine Calm.takeL 9 (i := 6) (v := ?_) (a' := ?_) (l' := #[true, true, true, true, true, true, true, false, false]) (d := some 9) (by kernel_rfl) rfl (by kernel_rfl) (by kernel_rfl) (by kernel_rfl) (by kernel_rfl) (fun _ _ _ h => h) HF.out (by kernel_rfl) ?_ rfl rfl ?_ ?_
        rotate_left
        · intro w' hF; clear hF; go_simp; try rfl
        rotate_left
        · simp only [Act.put]; exact rfl
        refine Calm.takeL 9 (i := 7) (v := ?_) (a' := ?_) (l' := #[true, true, true, true, true, true, true, true, false]) (d := some 10) (by kernel_rfl) rfl (by kernel_rfl) (by kernel_rfl) (by kernel_rfl) (by kernel_rfl) (fun _ _ _ h => h) HF.out rfl ?_ rfl rfl ?_ ?_
        rotate_left
        · intro w' hF; clear hF; go_simp; try rfl
        rotate_left
        · simp only [Act.put]; exact rfl
        refine Calm.takeL 9 (i := 8) (v := ?_) (a' := ?_) (l' := #[true, true, true, true, true, true, true, true, true]) (d := some 2) (by kernel_rfl) rfl (by kernel_rfl) (by kernel_rfl) (by kernel_rfl) (by kernel_rfl) (fun _ _ _ h => h) HF.out rfl ?_ rfl rfl ?_ ?_
        rotate_left
        · intro w' hF; clear hF; go_simp; try rfl
        rotate_left
        · simp only [Act.put]; exact rfl
        refine Calm.done (by kernel_rfl) ?_
        replace HB := hide HF.out.1
        clear HF
        go_wp2
        go_ret
        exact ⟨by first | (rw [HRES.out]; rfl) | (rw [HRES.out]; simp), HB.out⟩
end Go.Proofs.YtgkpdeabcijokaaDoor
