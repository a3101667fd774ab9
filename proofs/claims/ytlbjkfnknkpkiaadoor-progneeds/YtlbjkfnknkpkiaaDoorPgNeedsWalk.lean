/- swagelaw08.ProgNeeds answers true at all programs, and turns nothing that was there. -/
import Derived.Test.YtlbjkfnknkpkiaaDoorPgRDep
import Derived.Test.YtlbjkfnknkpkiaaDoorPgNeed
import Derived.Test.YtlbjkfnknkpkiaaDoorPgJMath
import Derived.Test.YtlbjkfnknkpkiaaDoorPgRight
import Derived.Test.YtlbjkfnknkpkiaaDoorPgLive
import Derived.Test.YtlbjkfnknkpkiaaDoorPgJoin
namespace Go.Proofs.YtlbjkfnknkpkiaaDoor
open Go.RowKit

theorem kept_append (b b' : List Bool) (l l' : List Ins) (h : b.length = l.length) : kept (b ++ b') (l ++ l') = kept b l ++ kept b' l' := by
  induction b generalizing l with
  | nil =>
    cases l with
    | nil => rfl
    | cons i l => simp at h
  | cons x b ih =>
    cases l with
    | nil => simp at h
    | cons i l =>
      have := ih l (by simpa using h)
      cases x <;> simp [kept, this]
def keptK (p : Pg) (k : Nat) : List Ins := kept ((ndL p).take k) (p.code.take k)
theorem ndL_length (p : Pg) : (ndL p).length = p.code.length := need_length _ _
theorem keptK_succ {p : Pg} {k : Nat} (h : k < p.code.length) : keptK p (k + 1) = if bl (ndL p) k = true then keptK p k ++ [cd p.code k] else keptK p k := by
  have h' : k < (ndL p).length := by rw [ndL_length]; exact h
  unfold keptK
  rw [List.take_succ_eq_append_getElem h, List.take_succ_eq_append_getElem h', kept_append _ _ _ _ (by rw [List.length_take, List.length_take, ndL_length]), ← cd_lt h]
  have e : (ndL p)[k] = bl (ndL p) k := by unfold bl; rw [List.getD_eq_getElem?_getD, List.getElem?_eq_getElem h']; rfl
  rw [e]
  cases bl (ndL p) k <;> simp [kept]
theorem keptK_length (p : Pg) (k : Nat) (h : k ≤ p.code.length) : (keptK p k).length ≤ k := by
  induction k with
  | zero => simp [keptK, kept]
  | succ k ih =>
    rw [keptK_succ (by omega)]
    have := ih (by omega)
    split
    · rw [List.length_append]; simp; omega
    · omega
theorem kept_mem {b : List Bool} {l : List Ins} {i : Ins} (h : i ∈ kept b l) : i ∈ l := by
  induction b generalizing l with
  | nil => cases l <;> simp [kept] at h
  | cons x b ih =>
    cases l with
    | nil => cases x <;> simp [kept] at h
    | cons j l =>
      cases x with
      | true =>
        simp only [kept, List.mem_cons] at h ⊢
        exact h.imp id ih
      | false => exact List.mem_cons_of_mem _ (ih h)
def keptP (p : Pg) : Pg := ⟨p.ins, p.regs, keptK p p.code.length, p.outs⟩
theorem keptK_all (p : Pg) : keptK p p.code.length = kept (ndL p) p.code := by unfold keptK; rw [List.take_length, ← ndL_length, List.take_length]
theorem keptP_right {p : Pg} (h : rightB p = true) : rightB (keptP p) = true := by
  obtain ⟨p1, p2, p3, p4, p5, p6, p7, p8⟩ := right_parts h
  refine right_of p1 p2 p3 ?_ p5 p6 (out_mem (p := p) h) ?_
  · have := keptK_length p p.code.length (Nat.le_refl _)
    show (keptK p p.code.length).length ≤ 16384
    omega
  · intro i hi
    exact may_mem h i (kept_mem hi |> fun h => by simpa using h)
theorem keptP_nd (p : Pg) : ndL (keptP p) = List.replicate (keptP p).code.length true := by
  unfold ndL keptP
  dsimp only
  rw [keptK_all]
  unfold ndL
  rw [kept_need]
theorem bl_ones (n k : Nat) (h : k < n) : bl (List.replicate n true) k = true := by
  unfold bl
  rw [List.getD_eq_getElem?_getD, List.getElem?_replicate, if_pos h]; rfl
/-- the state of the loop that puts together what is needed -/
structure QS (w0 : World) (B K gl gw n : Nat) (p : Pg) (pc po vc : Value) (x : List Ins) (w : World) : Prop where
  bel : Below w0.heap.size w0 w
  px : Box4 w B 25 (.int .i64 p.ins) (.int .i64 p.regs) pc po
  kx : Box4 w K 25 (.int .i64 p.ins) (.int .i64 p.regs) vc po
  oc : OwnC w w0.heap.size vc x
  ol : OwnB w w0.heap.size (.slice (some ⟨gl, 0, none⟩) n n) (ndL p)
  ow : OwnB w w0.heap.size (.slice (some ⟨gw, 0, none⟩) n n) (ndL p)
  ne : B ≠ K ∧ w0.heap.size ≤ K
section
variable {w0 w w' : World} {B K gl gw n : Nat} {p : Pg} {pc po vc : Value} {x : List Ins}
theorem QS.step (h : QS w0 B K gl gw n p pc po vc x w) (hb : Below w.heap.size w w') : QS w0 B K gl gw n p pc po vc x w' :=
  ⟨h.bel.trans (hb.mono h.bel.size), h.px.step hb, h.kx.step hb, own_below h.oc hb, own_below h.ol hb, own_below h.ow hb, h.ne⟩
theorem QS.drew (h : QS w0 B K gl gw n p pc po vc x w) : QS w0 B K gl gw n p pc po vc x w.drew :=
  ⟨h.bel.drew, h.px, h.kx, h.oc, h.ol, h.ow, h.ne⟩
theorem QS.app {v' : Value} {x' : List Ins} (h : QS w0 B K gl gw n p pc po vc x w) (hg : w.grownBy w' vc.ownBlock) (ho : OwnC w' w0.heap.size v' x') :
    QS w0 B K gl gw n p pc po v' x' (w'.setCell ⟨K, 2, none⟩ v') := by
  have n1 := box_row_ne h.px h.oc (by decide)
  have n4 := box_row_ne h.kx h.oc (by decide)
  have kx' := h.kx.grow hg n4
  have ol' := World.ownsRow.kept h.ol hg (rows_ne h.ol h.oc (by decide))
  have ow' := World.ownsRow.kept h.ow hg (rows_ne h.ow h.oc (by decide))
  exact ⟨(h.bel.grown hg h.bel.size (fun k hk => (h.oc.lt k hk).1)).setCell (p := ⟨K, 2, none⟩) h.ne.2 _, (h.px.grow hg n1).set_ne (fun e => h.ne.1 e.symm) _, kx'.set2 _, own_set_ne ho (box_row_ne kx' ho (by decide)) _, own_set_ne ol' (box_row_ne kx' ol' (by decide)) _, own_set_ne ow' (box_row_ne kx' ow' (by decide)) _, h.ne⟩
end

set_option maxRecDepth 100000 in
set_option maxHeartbeats 16000000 in
theorem pneeds_walk (v : Value) (p : Pg) (w : World) (hu : PgAt w v p) :
    Calls Tryd.prog 5 #[v] w fun e w' => e = .returned (.bool true) ∧ Below w.heap.size w w' := by
  have HP := hide hu
  obtain ⟨ca, cc, oa, oc, rfl, hc, ho⟩ := hu
  have KC := hide hc
  have KO := hide ho
  clear hc ho
  go_enter Tryd.func5, Tryd.ntmps5
  go_upto_region 1 with fail
  have hb := below_alloc w (.cells #[.int .i64 p.ins, .int .i64 p.regs, .slice ca p.code.length cc, .slice oa p.outs.length oc] 25)
  have PX := hide (Box4.new w 25 (.int .i64 p.ins) (.int .i64 p.regs) (.slice ca p.code.length cc) (.slice oa p.outs.length oc))
  replace HP := hide (HP.out.below hb)
  have HB := hide hb
  clear hb
  generalize w.alloc (.cells #[.int .i64 p.ins, .int .i64 p.regs, .slice ca p.code.length cc, .slice oa p.outs.length oc] 25) = w1 at *
  obtain ⟨B, hB⟩ : ∃ B, B = w.heap.size := ⟨_, rfl⟩
  have HZ := hide hB
  rw [← hB] at PX ⊢
  clear hB
  go_wp2_with fail
  refine (live_any _).mono ?_
  rintro e w2 ⟨rfl, hb⟩
  replace HP := hide (HP.out.below hb)
  replace PX := hide (PX.out.step hb)
  replace HB := hide (HB.out.trans (hb.mono HB.out.size))
  clear hb
  have c0 := PX.out.cell0
  have c1 := PX.out.cell1
  have c2 := PX.out.cell2
  have c3 := PX.out.cell3
  go_wp2_with fail
  refine (long_any _ p _ HP.out).mono ?_
  rintro e w3 ⟨rfl, hb⟩
  replace HP := hide (HP.out.below hb)
  replace PX := hide (PX.out.step hb)
  replace HB := hide (HB.out.trans (hb.mono HB.out.size))
  clear hb
  clear c0 c1 c2 c3
  have c0 := PX.out.cell0
  have c1 := PX.out.cell1
  have c2 := PX.out.cell2
  have c3 := PX.out.cell3
  cases hl : longB p with
  | true =>
    go_wp2
    go_ret
    exact ⟨rfl, HB.out⟩
  | false =>
  have L4 : Hid (p.code.length ≤ 400) := hide (by unfold longB at hl; simp at hl; omega)
  clear hl
  cases hp : rightB p with
  | false =>
    have GP := hide hp
    clear hp
    go_wp2_with fail
    refine (count_wrong _ p _ HP.out GP.out).mono ?_
    rintro e w4 ⟨rfl, hb⟩
    replace HP := hide (HP.out.below hb)
    replace PX := hide (PX.out.step hb)
    replace HB := hide (HB.out.trans (hb.mono HB.out.size))
    clear hb
    clear c0 c1 c2 c3
    have c0 := PX.out.cell0
    have c1 := PX.out.cell1
    have c2 := PX.out.cell2
    have c3 := PX.out.cell3
    go_upto_region 6 with fail
    clear c0 c1 c2 c3
    have hb := below_alloc w4 (.cells #[.int .i64 0, .int .i64 0, .int .i64 0, .int .i64 0, .int .i64 0] 39)
    have CX : Hid (Box5 (w4.alloc (.cells #[.int .i64 0, .int .i64 0, .int .i64 0, .int .i64 0, .int .i64 0] 39)) w4.heap.size 39 ⟨0, 0, 0, 0, 0⟩) := hide (Box5.new w4 39 ⟨0, 0, 0, 0, 0⟩)
    replace HP := hide (HP.out.below hb)
    replace PX := hide (PX.out.step hb)
    replace HB := hide (HB.out.trans (hb.mono HB.out.size))
    clear hb
    generalize w4.alloc (.cells #[.int .i64 0, .int .i64 0, .int .i64 0, .int .i64 0, .int .i64 0] 39) = w5 at *
    generalize w4.heap.size = gc at *
    have c0 := PX.out.cell0
    have c1 := PX.out.cell1
    have c2 := PX.out.cell2
    have c3 := PX.out.cell3
    go_wp2_with fail
    refine (needed_wrong _ p _ HP.out GP.out).mono ?_
    rintro e w6 ⟨rfl, hb⟩
    replace HP := hide (HP.out.below hb)
    replace PX := hide (PX.out.step hb)
    replace CX := hide (CX.out.step hb)
    replace HB := hide (HB.out.trans (hb.mono HB.out.size))
    clear hb
    clear c0 c1 c2 c3
    have c0 := PX.out.cell0
    have c1 := PX.out.cell1
    have c2 := PX.out.cell2
    have c3 := PX.out.cell3
    go_wp2_with fail
    refine (depth_wrong _ p _ HP.out GP.out).mono ?_
    rintro e w7 ⟨rfl, hb⟩
    replace HP := hide (HP.out.below hb)
    replace PX := hide (PX.out.step hb)
    replace CX := hide (CX.out.step hb)
    replace HB := hide (HB.out.trans (hb.mono HB.out.size))
    clear hb
    clear c0 c1 c2 c3
    have c0 := PX.out.cell0
    have c1 := PX.out.cell1
    have c2 := PX.out.cell2
    have c3 := PX.out.cell3
    go_wp2_with fail
    refine (rright_any _ p _ HP.out).mono ?_
    rintro e w8 ⟨rfl, hb⟩
    rw [GP.out]
    replace HP := hide (HP.out.below hb)
    replace PX := hide (PX.out.step hb)
    replace CX := hide (CX.out.step hb)
    replace HB := hide (HB.out.trans (hb.mono HB.out.size))
    clear hb
    clear c0 c1 c2 c3
    have k0 := CX.out.cells.cell0
    have k1 := CX.out.cells.cell1
    have k2 := CX.out.cells.cell2
    have k3 := CX.out.cells.cell3
    have k4 := CX.out.cells.cell4
    simp only [Nat.zero_add] at k1 k2 k3 k4
    go_wp2_with fail
    refine (live_any _).mono ?_
    rintro e w9 ⟨rfl, hb⟩
    replace HB := hide (HB.out.trans (hb.mono HB.out.size))
    clear hb
    go_wp2
    go_ret
    exact ⟨rfl, HB.out⟩
  | true =>
    have GP := hide hp
    clear hp
    obtain ⟨x, hx⟩ : ∃ x, x = cntI p.code := ⟨_, rfl⟩
    have EX := hide hx
    clear hx
    go_wp2_with fail
    refine (count_right _ p _ HP.out GP.out).mono ?_
    rw [← EX.out]
    unfold Ins.vals
    rintro e w4 ⟨rfl, hb⟩
    replace HP := hide (HP.out.below hb)
    replace PX := hide (PX.out.step hb)
    replace HB := hide (HB.out.trans (hb.mono HB.out.size))
    clear hb
    clear c0 c1 c2 c3
    have c0 := PX.out.cell0
    have c1 := PX.out.cell1
    have c2 := PX.out.cell2
    have c3 := PX.out.cell3
    go_upto_region 6 with fail
    clear c0 c1 c2 c3
    have hb := below_alloc w4 (.cells #[.int .i64 x.op, .int .i64 x.to, .int .i64 x.a, .int .i64 x.b, .int .i64 x.c] 39)
    have CX : Hid (Box5 (w4.alloc (.cells #[.int .i64 x.op, .int .i64 x.to, .int .i64 x.a, .int .i64 x.b, .int .i64 x.c] 39)) w4.heap.size 39 x) := hide (Box5.new w4 39 x)
    replace HP := hide (HP.out.below hb)
    replace PX := hide (PX.out.step hb)
    replace HB := hide (HB.out.trans (hb.mono HB.out.size))
    clear hb
    generalize w4.alloc (.cells #[.int .i64 x.op, .int .i64 x.to, .int .i64 x.a, .int .i64 x.b, .int .i64 x.c] 39) = w5 at *
    generalize w4.heap.size = gc at *
    have c0 := PX.out.cell0
    have c1 := PX.out.cell1
    have c2 := PX.out.cell2
    have c3 := PX.out.cell3
    go_wp2_with fail
    refine (needed_right _ p _ HP.out GP.out L4.out).mono ?_
    rintro e w6 ⟨gl, rfl, hol, hb⟩
    have OL := hide (own_base hol HB.out.size)
    clear hol
    replace HP := hide (HP.out.below hb)
    replace PX := hide (PX.out.step hb)
    replace CX := hide (CX.out.step hb)
    replace HB := hide (HB.out.trans (hb.mono HB.out.size))
    clear hb
    clear c0 c1 c2 c3
    have c0 := PX.out.cell0
    have c1 := PX.out.cell1
    have c2 := PX.out.cell2
    have c3 := PX.out.cell3
    go_wp2_with fail
    refine (depth_right _ p _ HP.out GP.out).mono ?_
    rintro e w7 ⟨rfl, hb⟩
    replace OL := hide (own_below OL.out hb)
    replace HP := hide (HP.out.below hb)
    replace PX := hide (PX.out.step hb)
    replace CX := hide (CX.out.step hb)
    replace HB := hide (HB.out.trans (hb.mono HB.out.size))
    clear hb
    clear c0 c1 c2 c3
    have c0 := PX.out.cell0
    have c1 := PX.out.cell1
    have c2 := PX.out.cell2
    have c3 := PX.out.cell3
    go_wp2_with fail
    refine (rright_any _ p _ HP.out).mono ?_
    rintro e w8 ⟨rfl, hb⟩
    rw [GP.out]
    replace OL := hide (own_below OL.out hb)
    replace HP := hide (HP.out.below hb)
    replace PX := hide (PX.out.step hb)
    replace CX := hide (CX.out.step hb)
    replace HB := hide (HB.out.trans (hb.mono HB.out.size))
    clear hb
    clear c0 c1 c2 c3
    have c0 := PX.out.cell0
    have c1 := PX.out.cell1
    have c2 := PX.out.cell2
    have c3 := PX.out.cell3
    go_wp2_with fail
    refine (rcount_right _ p _ HP.out GP.out).mono ?_
    rw [← EX.out]
    unfold Ins.vals
    rintro e w9 ⟨rfl, hb⟩
    replace OL := hide (own_below OL.out hb)
    replace HP := hide (HP.out.below hb)
    replace PX := hide (PX.out.step hb)
    replace CX := hide (CX.out.step hb)
    replace HB := hide (HB.out.trans (hb.mono HB.out.size))
    clear hb
    clear c0 c1 c2 c3
    have c0 := PX.out.cell0
    have c1 := PX.out.cell1
    have c2 := PX.out.cell2
    have c3 := PX.out.cell3
    go_upto_region 12 with fail
    clear c0 c1 c2 c3
    have hb := below_alloc w9 (.cells #[.int .i64 x.op, .int .i64 x.to, .int .i64 x.a, .int .i64 x.b, .int .i64 x.c] 45)
    have AX : Hid (Box5 (w9.alloc (.cells #[.int .i64 x.op, .int .i64 x.to, .int .i64 x.a, .int .i64 x.b, .int .i64 x.c] 45)) w9.heap.size 45 x) := hide (Box5.new w9 45 x)
    replace OL := hide (own_below OL.out hb)
    replace HP := hide (HP.out.below hb)
    replace PX := hide (PX.out.step hb)
    replace CX := hide (CX.out.step hb)
    replace HB := hide (HB.out.trans (hb.mono HB.out.size))
    clear hb
    generalize w9.alloc (.cells #[.int .i64 x.op, .int .i64 x.to, .int .i64 x.a, .int .i64 x.b, .int .i64 x.c] 45) = w10 at *
    generalize w9.heap.size = ga at *
    have c0 := PX.out.cell0
    have c1 := PX.out.cell1
    have c2 := PX.out.cell2
    have c3 := PX.out.cell3
    go_wp2_with fail
    refine (rneeded_right _ p _ HP.out GP.out).mono ?_
    rintro e w11 ⟨gw, rfl, how, hb⟩
    have OW := hide (own_base how HB.out.size)
    replace OL := hide (own_below OL.out hb)
    clear how
    replace HP := hide (HP.out.below hb)
    replace PX := hide (PX.out.step hb)
    replace CX := hide (CX.out.step hb)
    replace AX := hide (AX.out.step hb)
    replace HB := hide (HB.out.trans (hb.mono HB.out.size))
    clear hb
    clear c0 c1 c2 c3
    have c0 := PX.out.cell0
    have c1 := PX.out.cell1
    have c2 := PX.out.cell2
    have c3 := PX.out.cell3
    have k0 := CX.out.cells.cell0
    have k1 := CX.out.cells.cell1
    have k2 := CX.out.cells.cell2
    have k3 := CX.out.cells.cell3
    have k4 := CX.out.cells.cell4
    simp only [Nat.zero_add] at k1 k2 k3 k4
    have m0 := AX.out.cells.cell0
    have m1 := AX.out.cells.cell1
    have m2 := AX.out.cells.cell2
    have m3 := AX.out.cells.cell3
    have m4 := AX.out.cells.cell4
    simp only [Nat.zero_add] at m1 m2 m3 m4
    have DB := dep_bound GP.out
    have ex0 : (x.op != x.op) = false := by simp
    have ex1 : (x.to != x.to) = false := by simp
    have ex2 : (x.a != x.a) = false := by simp
    have ex3 : (x.b != x.b) = false := by simp
    have ex4 : (x.c != x.c) = false := by simp
    go_wp2_with fail
    refine (rdepth_right _ p _ HP.out GP.out).mono ?_
    rintro e w12 ⟨rfl, hb⟩
    replace OL := hide (own_below OL.out hb)
    replace OW := hide (own_below OW.out hb)
    replace PX := hide (PX.out.step hb)
    replace HB := hide (HB.out.trans (hb.mono HB.out.size))
    clear hb
    clear k0 k1 k2 k3 k4 m0 m1 m2 m3 m4 ex0 ex1 ex2 ex3 ex4 CX AX HP DB
    clear c0 c1 c2 c3
    have c0 := PX.out.cell0
    have c1 := PX.out.cell1
    have c2 := PX.out.cell2
    have c3 := PX.out.cell3
    have ed : (dep p != dep p) = false := by simp
    have el : ((p.code.length : Int) != p.code.length) = false := by simp
    go_wp2_with fail
    refine (live_any _).mono ?_
    rintro e w13 ⟨rfl, hb⟩
    replace OL := hide (own_below OL.out hb)
    replace OW := hide (own_below OW.out hb)
    replace PX := hide (PX.out.step hb)
    replace HB := hide (HB.out.trans (hb.mono HB.out.size))
    clear hb
    clear c0 c1 c2 c3
    have c0 := PX.out.cell0
    have c1 := PX.out.cell1
    have c2 := PX.out.cell2
    have c3 := PX.out.cell3
    go_upto_region 16 with fail
    clear ed el
    clear c0 c1 c2 c3
    have hb := below_alloc w13 (.cells #[.int .i64 p.ins, .int .i64 p.regs, .slice none 0 0, .slice oa p.outs.length oc] 25)
    have QX : Hid (QS w B w13.heap.size gl gw p.code.length p (.slice ca p.code.length cc) (.slice oa p.outs.length oc) (.slice none 0 0) [] (w13.alloc (.cells #[.int .i64 p.ins, .int .i64 p.regs, .slice none 0 0, .slice oa p.outs.length oc] 25))) := hide ⟨HB.out.trans (hb.mono HB.out.size), PX.out.step hb, Box4.new _ _ _ _ _ _, World.ownsRow_nil _ _ _ _, own_below OL.out hb, own_below OW.out hb, ⟨by have := PX.out.lt; omega, HB.out.size⟩⟩
    clear hb HB PX OL OW
    generalize w13.alloc (.cells #[.int .i64 p.ins, .int .i64 p.regs, .slice none 0 0, .slice oa p.outs.length oc] 25) = w14 at *
    generalize w13.heap.size = gq at *
    go_upto_region 17 with fail
    go_loopw [13] (fun kv wr => ∃ (k : Nat) (vc : Value), k ≤ p.code.length ∧ kv = .int .i64 k ∧ QS w B gq gl gw p.code.length p (.slice ca p.code.length cc) (.slice oa p.outs.length oc) vc (keptK p k) wr) (fun kv _ => p.code.length - (intOf kv).toNat)
    case atStart => exact ⟨0, _, Nat.zero_le _, rfl, by rw [show keptK p 0 = [] from rfl]; exact QX.out⟩
    case round =>
      clear QX
      obtain ⟨k, vc, hk, rfl, hJ⟩ := hrel
      obtain ⟨l, hl⟩ : ∃ l, l = keptK p k := ⟨_, rfl⟩
      rw [← hl] at hJ
      have l4 := L4.out
      have LN : Hid (l.length ≤ 400) := hide (by have := keptK_length p k hk; rw [hl]; omega)
      have HL := hide hl
      clear hl
      obtain ⟨va, vcap, rfl⟩ := own_slice hJ.oc
      have JX := hide hJ
      clear hJ
      by_cases hlt : k < p.code.length
      · obtain ⟨b, off, rfl, k1⟩ := KC.out.at hlt
        obtain ⟨y, hy⟩ : ∃ y, y = cd p.code k := ⟨_, rfl⟩
        rw [← hy] at k1
        have HY := hide hy
        have RC := hide k1
        clear hy k1
        have KL : Hid (k < (ndL p).length) := hide (by rw [ndL_length]; exact hlt)
        obtain ⟨bv, hbv⟩ : ∃ bv, bv = bl (ndL p) k := ⟨_, rfl⟩
        have HBV := hide hbv
        clear hbv
        have bne : (bv != bv) = false := by simp
        go_upto_region 19 with fail
        refine wp_calm (fun w' => Below w.heap.size w w' ∧ QS w B gq gl gw p.code.length p (.slice (some ⟨b, off, none⟩) p.code.length cc) (.slice oa p.outs.length oc) (.slice va l.length vcap) l w') (fun _ => true) 9 #[false, false, false, false, false, false, false, false, false] (by kernel_rfl) rfl rfl ?_
        have HF := hide (And.intro JX.out.bel.drew JX.out.drew)
        generalize wr.drew = wrd at *
        refine Calm.take (i := 0) (v := ?_) (a' := ?_) (l' := #[true, false, false, false, false, false, false, false, false]) (d := some 126) rfl (by kernel_rfl) (by kernel_rfl) (by kernel_rfl) (by kernel_rfl) (fun _ _ _ h => h) HF.out rfl ?_ rfl rfl ?_ ?_
        rotate_left
        · intro w' hF; clear hF; go_simp; try rfl
        rotate_left
        · simp only [Act.put]; exact rfl
        refine Calm.take (i := 1) (v := ?_) (a' := ?_) (l' := #[true, true, false, false, false, false, false, false, false]) (d := some 127) rfl (by kernel_rfl) (by kernel_rfl) (by kernel_rfl) (by kernel_rfl) (fun _ _ _ h => h) HF.out rfl ?_ rfl rfl ?_ ?_
        rotate_left
        · intro w' hF; clear hF; go_simp; try rfl
        rotate_left
        · simp only [Act.put]; exact rfl
        refine Calm.take (i := 2) (v := ?_) (a' := ?_) (l' := #[true, true, true, false, false, false, false, false, false]) (d := some 128) rfl (by kernel_rfl) (by kernel_rfl) (by kernel_rfl) (by kernel_rfl) (fun _ _ _ h => h) HF.out rfl ?_ rfl rfl ?_ ?_
        rotate_left
        · intro w' hF; clear hF; go_simp; try rfl
        rotate_left
        · simp only [Act.put]; exact rfl
        refine Calm.take (i := 3) (v := ?_) (a' := ?_) (l' := #[true, true, true, true, false, false, false, false, false]) (d := some 129) rfl (by kernel_rfl) (by kernel_rfl) (by kernel_rfl) (by kernel_rfl) (fun _ _ _ h => h) HF.out rfl ?_ rfl rfl ?_ ?_
        rotate_left
        · intro w' hF; have f0 := hF.2.ol.cell KL.out; have f1 := hF.2.ow.cell KL.out; rw [← HBV.out] at f0 f1; clear hF; go_simp; try rfl
        rotate_left
        · simp only [Act.put]; exact rfl
        refine Calm.take (i := 4) (v := ?_) (a' := ?_) (l' := #[true, true, true, true, true, false, false, false, false]) (d := some 130) rfl (by kernel_rfl) (by kernel_rfl) (by kernel_rfl) (by kernel_rfl) (fun _ _ _ h => h) HF.out rfl ?_ rfl rfl ?_ ?_
        rotate_left
        · intro w' hF; clear hF; go_simp; try rfl
        rotate_left
        · simp only [Act.put]; exact rfl
        refine Calm.take (i := 5) (v := ?_) (a' := ?_) (l' := #[true, true, true, true, true, true, false, false, false]) (d := some 131) rfl (by kernel_rfl) (by kernel_rfl) (by kernel_rfl) (by kernel_rfl) (fun _ _ _ h => h) HF.out rfl ?_ rfl rfl ?_ ?_
        rotate_left
        · intro w' hF; clear hF; go_simp; try rfl
        rotate_left
        · simp only [Act.put]; exact rfl
        refine Calm.take (i := 6) (v := ?_) (a' := ?_) (l' := #[true, true, true, true, true, true, true, false, false]) (d := some 132) rfl (by kernel_rfl) (by kernel_rfl) (by kernel_rfl) (by kernel_rfl) (fun _ _ _ h => h) HF.out rfl ?_ rfl rfl ?_ ?_
        rotate_left
        · intro w' hF; clear hF; go_simp; try rfl
        rotate_left
        · simp only [Act.put]; exact rfl
        refine Calm.take (i := 7) (v := ?_) (a' := ?_) (l' := #[true, true, true, true, true, true, true, true, false]) (d := some 133) rfl (by kernel_rfl) (by kernel_rfl) (by kernel_rfl) (by kernel_rfl) (fun _ _ _ h => h) HF.out rfl ?_ rfl rfl ?_ ?_
        rotate_left
        · intro w' hF; have f0 := hF.2.ol.cell KL.out; have f1 := hF.2.ow.cell KL.out; rw [← HBV.out] at f0 f1; clear hF; go_simp; try rfl
        rotate_left
        · simp only [Act.put]; exact rfl
        refine Calm.take (i := 8) (v := ?_) (a' := ?_) (l' := #[true, true, true, true, true, true, true, true, true]) (d := some 134) rfl (by kernel_rfl) (by kernel_rfl) (by kernel_rfl) (by kernel_rfl) (fun _ _ _ h => h) HF.out rfl ?_ rfl rfl ?_ ?_
        rotate_left
        · intro w' hF; clear hF; go_simp; try rfl
        rotate_left
        · simp only [Act.put]; exact rfl
        refine Calm.done (by kernel_rfl) ?_
        have JX := hide HF.out.2
        have f0 := HF.out.2.ol.cell KL.out
        rw [← HBV.out] at f0
        clear HF
        simp only [List.setIfInBounds_toArray, List.set_cons_succ, List.set_cons_zero]
        go_upto_region 21 with fail
        clear bne
        cases bv with
        | false =>
          go_wp2
          go_roundw
          case rel => exact ⟨k + 1, _, by omega, by go_num, by rw [keptK_succ hlt, ← HBV.out, if_neg (by simp), ← HL.out]; exact JX.out⟩
          case measure => simp [intOf]; omega
        | true =>
          go_upto_region 22 with fail
          clear f0
          refine wp_calm (fun w' => Below w.heap.size w w' ∧ QS w B gq gl gw p.code.length p (.slice (some ⟨b, off, none⟩) p.code.length cc) (.slice oa p.outs.length oc) (.slice va l.length vcap) l w') (fun j => j != 8 && j != 9 && j != 10) 11 #[false, false, false, false, false, false, false, false, false, false, false] (by kernel_rfl) rfl rfl ?_
          have HF := hide (And.intro JX.out.bel.drew JX.out.drew)
          generalize wrd.drew = wrdd at *
          refine Calm.takeL 11 (i := 0) (v := ?_) (a' := ?_) (l' := #[true, false, false, false, false, false, false, false, false, false, false]) (d := some 139) (by kernel_rfl) rfl (by kernel_rfl) (by kernel_rfl) (by kernel_rfl) (by kernel_rfl) (fun _ _ _ h => h) HF.out rfl ?_ rfl rfl ?_ ?_
          rotate_left
          · intro w' hF; clear hF; go_simp; try rfl
          rotate_left
          · simp only [Act.put]; exact rfl
          refine Calm.takeL 11 (i := 1) (v := ?_) (a' := ?_) (l' := #[true, true, false, false, false, false, false, false, false, false, false]) (d := some 140) (by kernel_rfl) rfl (by kernel_rfl) (by kernel_rfl) (by kernel_rfl) (by kernel_rfl) (fun _ _ _ h => h) HF.out rfl ?_ rfl rfl ?_ ?_
          rotate_left
          · intro w' hF; have f0 := hF.2.kx.cell2; have f1 := hF.2.px.cell2; have gg := RC.out.step hF.1; have f2 := gg.cell0; have f3 := gg.cell1; have f4 := gg.cell2; have f5 := gg.cell3; have f6 := gg.cell4; clear gg; clear hF; go_simp; try rfl
          rotate_left
          · simp only [Act.put]; exact rfl
          refine Calm.takeL 11 (i := 2) (v := ?_) (a' := ?_) (l' := #[true, true, true, false, false, false, false, false, false, false, false]) (d := some 141) (by kernel_rfl) rfl (by kernel_rfl) (by kernel_rfl) (by kernel_rfl) (by kernel_rfl) (fun _ _ _ h => h) HF.out rfl ?_ rfl rfl ?_ ?_
          rotate_left
          · intro w' hF; clear hF; go_simp; try rfl
          rotate_left
          · simp only [Act.put]; exact rfl
          refine Calm.takeL 11 (i := 3) (v := ?_) (a' := ?_) (l' := #[true, true, true, true, false, false, false, false, false, false, false]) (d := some 142) (by kernel_rfl) rfl (by kernel_rfl) (by kernel_rfl) (by kernel_rfl) (by kernel_rfl) (fun _ _ _ h => h) HF.out rfl ?_ rfl rfl ?_ ?_
          rotate_left
          · intro w' hF; have f0 := hF.2.kx.cell2; have f1 := hF.2.px.cell2; have gg := RC.out.step hF.1; have f2 := gg.cell0; have f3 := gg.cell1; have f4 := gg.cell2; have f5 := gg.cell3; have f6 := gg.cell4; clear gg; clear hF; go_simp; try rfl
          rotate_left
          · simp only [Act.put]; exact rfl
          refine Calm.takeL 11 (i := 4) (v := ?_) (a' := ?_) (l' := #[true, true, true, true, true, false, false, false, false, false, false]) (d := some 143) (by kernel_rfl) rfl (by kernel_rfl) (by kernel_rfl) (by kernel_rfl) (by kernel_rfl) (fun _ _ _ h => h) HF.out rfl ?_ rfl rfl ?_ ?_
          rotate_left
          · intro w' hF; clear hF; go_simp; try rfl
          rotate_left
          · simp only [Act.put]; exact rfl
          refine Calm.takeL 11 (i := 5) (v := ?_) (a' := ?_) (l' := #[true, true, true, true, true, true, false, false, false, false, false]) (d := some 144) (by kernel_rfl) rfl (by kernel_rfl) (by kernel_rfl) (by kernel_rfl) (by kernel_rfl) (fun _ _ _ h => h) HF.out rfl ?_ rfl rfl ?_ ?_
          rotate_left
          · intro w' hF; clear hF; go_simp; try rfl
          rotate_left
          · simp only [Act.put]; exact rfl
          refine Calm.takeL 11 (i := 6) (v := ?_) (a' := ?_) (l' := #[true, true, true, true, true, true, true, false, false, false, false]) (d := some 145) (by kernel_rfl) rfl (by kernel_rfl) (by kernel_rfl) (by kernel_rfl) (by kernel_rfl) (fun _ _ _ h => h) HF.out rfl ?_ rfl rfl ?_ ?_
          rotate_left
          · intro w' hF; have f0 := hF.2.kx.cell2; have f1 := hF.2.px.cell2; have gg := RC.out.step hF.1; have f2 := gg.cell0; have f3 := gg.cell1; have f4 := gg.cell2; have f5 := gg.cell3; have f6 := gg.cell4; clear gg; clear hF; go_simp; try rfl
          rotate_left
          · simp only [Act.put]; exact rfl
          refine Calm.one (i := 7) (l' := #[true, true, true, true, true, true, true, true, false, false, false]) (by kernel_rfl) rfl rfl rfl fun K hK => ?_
          go_simp
          have al := below_alloc wrdd (.cells #[.int .i64 y.op, .int .i64 y.to, .int .i64 y.a, .int .i64 y.b, .int .i64 y.c] 36)
          have HF' := hide (And.intro (HF.out.1.trans ((al).mono HF.out.1.size)) (HF.out.2.step (al)))
          have BXe := hide ((show CodeAt (wrdd.alloc (.cells #[.int .i64 y.op, .int .i64 y.to, .int .i64 y.a, .int .i64 y.b, .int .i64 y.c] 36)) (.slice (some ⟨wrdd.heap.size, 0, none⟩) 1 1) [y] from code1 wrdd y rfl))
          have GEe := hide (HF.out.1.size)
          refine hK _ _ (fun _ => HF'.out) ?_
          clear hK K HF al
          have HF := hide HF'.out
          clear HF'
          generalize wrdd.alloc (.cells #[.int .i64 y.op, .int .i64 y.to, .int .i64 y.a, .int .i64 y.b, .int .i64 y.c] 36) = wze at *
          generalize wrdd.heap.size = ge at *
          refine Calm.one (i := 8) (l' := #[true, true, true, true, true, true, true, true, true, false, false]) (by kernel_rfl) rfl rfl rfl fun K hK => ?_
          refine app_codeW (.tmp 140) (.tmp 146) rfl w.heap.size _ l rfl HF.out.2.oc ge y rfl BXe.out (by have := LN.out; omega) HF.out.1.size ?_
          intro v' w2 hown hgrow
          obtain ⟨l2, hl2⟩ : ∃ l2, l2 = l ++ [y] := ⟨_, rfl⟩
          rw [← hl2] at hown
          have HL2 := hide hl2
          clear hl2
          have kx' := HF.out.2.kx.grow hgrow (box_row_ne HF.out.2.kx HF.out.2.oc (by decide))
          have y2 := kx'.cell2
          have z2 := kx'.free 2
          have JN := hide (HF.out.2.app hgrow hown)
          obtain ⟨va', vcap', rfl⟩ := own_slice hown
          clear hgrow hown kx'
          refine hK _ _ (fun h => absurd h (by decide)) ?_
          clear hK K
          refine Calm.one (i := 9) (l' := #[true, true, true, true, true, true, true, true, true, true, false]) (by kernel_rfl) rfl rfl rfl fun K hK => ?_
          go_simp
          refine hK _ _ (fun h => absurd h (by decide)) ?_
          clear hK K
          refine Calm.one (i := 10) (l' := #[true, true, true, true, true, true, true, true, true, true, true]) (by kernel_rfl) rfl rfl rfl fun K hK => ?_
          go_simp
          refine hK _ _ (fun h => absurd h (by decide)) ?_
          clear hK K
          refine Calm.done (by kernel_rfl) ?_
          clear HF BXe
          try simp only [List.setIfInBounds_toArray, List.set_cons_succ, List.set_cons_zero]
          go_wp2
          go_roundw
          case rel => exact ⟨k + 1, _, by omega, by go_num, by rw [keptK_succ hlt, ← HBV.out, if_pos rfl, ← HL.out, ← HY.out, ← HL2.out]; exact JN.out⟩
          case measure => simp [intOf]; omega
      · have e : k = p.code.length := by omega
        subst e
        have NR : Hid (rightB ⟨p.ins, p.regs, l, p.outs⟩ = true) := hide (by rw [HL.out]; exact keptP_right GP.out)
        have NN : Hid (ndL ⟨p.ins, p.regs, l, p.outs⟩ = List.replicate l.length true) := hide (by rw [HL.out]; exact keptP_nd p)
        have HQ : Hid (PgAt wr (.agg #[.int .i64 p.ins, .int .i64 p.regs, .slice va l.length vcap, .slice oa p.outs.length oc]) ⟨p.ins, p.regs, l, p.outs⟩) := hide ⟨va, vcap, oa, oc, rfl, OwnC.at JX.out.oc, KO.out.below JX.out.bel⟩
        have d0 := JX.out.kx.cell0
        have d1 := JX.out.kx.cell1
        have d2 := JX.out.kx.cell2
        have d3 := JX.out.kx.cell3
        go_wp2_with fail
        refine (needed_right _ _ _ HQ.out NR.out LN.out).mono ?_
        rw [NN.out]
        rintro e w16 ⟨gm, rfl, hom, hb⟩
        have OM := hide hom
        replace JX := hide (JX.out.step hb)
        clear hom hb d0 d1 d2 d3 HQ NN NR
        have d2 := JX.out.kx.cell2
        dsimp only at OM ⊢
        have en : ((l.length : Int) != l.length) = false := by simp
        go_upto_region 27 with fail
        go_loopw [16] (fun kv wr => ∃ k : Nat, k ≤ l.length ∧ kv = .int .i64 k ∧ wr = w16) (fun kv _ => l.length - (intOf kv).toNat)
        case atStart => exact ⟨0, Nat.zero_le _, rfl, rfl⟩
        case round =>
          obtain ⟨k, hk, rfl, hwr⟩ := hrel
          obtain rfl := hwr
          have ln4 := LN.out
          by_cases klt : k < l.length
          · have kc := OwnB.cell OM.out (k := k) (by rw [List.length_replicate]; exact klt)
            rw [bl_ones _ _ klt] at kc
            go_wp2
            go_roundw
            case rel => exact ⟨k + 1, by omega, by go_num, trivial⟩
            case measure => simp [intOf]; omega
          · have e : k = l.length := by omega
            subst e
            go_wp2
            go_ret
            exact ⟨rfl, JX.out.bel⟩
end Go.Proofs.YtlbjkfnknkpkiaaDoor
