/- Whether two programs are the same (the program's and the document's); whether one is long; what an instruction asks. -/
import Derived.Test.YtcciojlbfaanmaaPgOwn
namespace Go.Proofs.Ytcciojlbfaanmaa
open Go.RowKit

noncomputable def eqB {α : Type} (x y : α) : Bool := @decide (x = y) (Classical.propDecidable _)
theorem eqB_yes {α : Type} {x y : α} (h : x = y) : eqB x y = true := @decide_eq_true _ (Classical.propDecidable _) h
theorem eqB_no {α : Type} {x y : α} (h : x ≠ y) : eqB x y = false := @decide_eq_false _ (Classical.propDecidable _) h
theorem ins_ne {x y : Ins} (h : x ≠ y) : x.op ≠ y.op ∨ (x.op = y.op ∧ x.to ≠ y.to) ∨ (x.op = y.op ∧ x.to = y.to ∧ x.a ≠ y.a) ∨ (x.op = y.op ∧ x.to = y.to ∧ x.a = y.a ∧ x.b ≠ y.b) ∨ (x.op = y.op ∧ x.to = y.to ∧ x.a = y.a ∧ x.b = y.b ∧ x.c ≠ y.c) := by
  obtain ⟨o1, t1, a1, b1, c1⟩ := x
  obtain ⟨o2, t2, a2, b2, c2⟩ := y
  by_cases e1 : o1 = o2
  · by_cases e2 : t1 = t2
    · by_cases e3 : a1 = a2
      · by_cases e4 : b1 = b2
        · by_cases e5 : c1 = c2
          · subst e1 e2 e3 e4 e5; exact absurd rfl h
          · exact .inr (.inr (.inr (.inr ⟨e1, e2, e3, e4, e5⟩)))
        · exact .inr (.inr (.inr (.inl ⟨e1, e2, e3, e4⟩)))
      · exact .inr (.inr (.inl ⟨e1, e2, e3⟩))
    · exact .inr (.inl ⟨e1, e2⟩)
  · exact .inl e1
theorem code_eq {l m : List Ins} (hl : l.length = m.length) (h : ∀ j, j < l.length → cd l j = cd m j) : l = m := by
  apply List.ext_getElem hl
  intro i h1 h2
  have := h i h1
  rwa [cd_lt h1, cd_lt h2] at this
theorem outs_eq {l m : List Int} (hl : l.length = m.length) (h : ∀ j, j < l.length → ot l j = ot m j) : l = m := by
  apply List.ext_getElem hl
  intro i h1 h2
  have := h i h1
  rwa [ot_lt h1, ot_lt h2] at this
theorem code_ne {l m : List Ins} {j : Nat} (h : cd l j ≠ cd m j) : l ≠ m := fun e => h (by rw [e])
theorem outs_ne {l m : List Int} {j : Nat} (h : ot l j ≠ ot m j) : l ≠ m := fun e => h (by rw [e])

set_option maxRecDepth 100000 in
set_option maxHeartbeats 8000000 in
theorem eqc_any (u v : Value) (l m : List Ins) (w : World) (hu : CodeAt w u l) (hv : CodeAt w v m) :
    Calls Try.prog 56 #[u, v] w fun e w' => e = .returned (.bool (eqB l m)) ∧ Below w.heap.size w w' := by
  have HU := hide hu
  have HV := hide hv
  obtain ⟨a, cap, rfl, hcap, hm, _⟩ := hu
  obtain ⟨a', cap', rfl, hcap', hm', _⟩ := hv
  unfold maxLen at hm
  by_cases hl : l.length = m.length
  · have HE := hide hl
    rw [← hl] at hcap' HV ⊢
    clear hl
    go_enter Try.func56, Try.ntmps56
    go_wp2
    go_loopw [13, 5] (fun iv _ wr => ∃ i : Nat, i ≤ l.length ∧ iv = .int .i64 i ∧ Below w.heap.size w wr ∧ ∀ j, j < i → cd l j = cd m j) (fun iv _ _ => l.length - (intOf iv).toNat)
    case atStart => exact ⟨0, Nat.zero_le _, rfl, Below.refl _ _, fun j h => absurd h (Nat.not_lt_zero _)⟩
    case round =>
      obtain ⟨i, hi, rfl, hwr, hf⟩ := hrel
      have HF := hide hf
      have HW := hide hwr
      clear hf hwr
      by_cases hlt : i < l.length
      · obtain ⟨b, off, rfl, k1⟩ := HU.out.at hlt
        obtain ⟨b', off', rfl, k2⟩ := HV.out.at (by rw [← HE.out]; exact hlt)
        replace k1 := k1.step HW.out
        replace k2 := k2.step HW.out
        obtain ⟨x, hx⟩ : ∃ x, x = cd l i := ⟨_, rfl⟩
        obtain ⟨y, hy⟩ : ∃ y, y = cd m i := ⟨_, rfl⟩
        rw [← hx] at k1
        rw [← hy] at k2
        have HX := hide hx
        have HY := hide hy
        clear hx hy
        have x0 := k1.cell0
        have x1 := k1.cell1
        have x2 := k1.cell2
        have x3 := k1.cell3
        have x4 := k1.cell4
        have y0 := k2.cell0
        have y1 := k2.cell1
        have y2 := k2.cell2
        have y3 := k2.cell3
        have y4 := k2.cell4
        clear k1 k2
        by_cases hxy : x = y
        · subst hxy
          go_wp2
          go_quiet (fail)
          go_wp2
          go_roundw
          case rel => exact ⟨i + 1, by omega, by go_num, below_drewN HW.out _, fun j hj => by
            rcases Nat.lt_or_ge j i with h | h
            · exact HF.out j h
            · have e : j = i := by omega
              subst e
              rw [← HX.out]; exact HY.out⟩
          case measure => simp [intOf]; omega
        · have HN : Hid (cd l i ≠ cd m i) := hide (by rw [← HX.out, ← HY.out]; exact hxy)
          rcases ins_ne hxy with e | ⟨e1, e⟩ | ⟨e1, e2, e⟩ | ⟨e1, e2, e3, e⟩ | ⟨e1, e2, e3, e4, e⟩
          · have q0 : (x.op == y.op) = false := by simp [e]
            clear e
            go_wp2
            go_quiet (fail)
            go_wp2
            go_ret
            exact ⟨by rw [eqB_no (code_ne HN.out)]; rfl, below_drewN HW.out _⟩
          · have q1 : (x.to == y.to) = false := by simp [e]
            rw [e1] at x0
            clear e e1
            go_wp2
            go_quiet (fail)
            go_wp2
            go_ret
            exact ⟨by rw [eqB_no (code_ne HN.out)]; rfl, below_drewN HW.out _⟩
          · have q2 : (x.a == y.a) = false := by simp [e]
            rw [e1] at x0
            rw [e2] at x1
            clear e e1 e2
            go_wp2
            go_quiet (fail)
            go_wp2
            go_ret
            exact ⟨by rw [eqB_no (code_ne HN.out)]; rfl, below_drewN HW.out _⟩
          · have q3 : (x.b == y.b) = false := by simp [e]
            rw [e1] at x0
            rw [e2] at x1
            rw [e3] at x2
            clear e e1 e2 e3
            go_wp2
            go_quiet (fail)
            go_wp2
            go_ret
            exact ⟨by rw [eqB_no (code_ne HN.out)]; rfl, below_drewN HW.out _⟩
          · have q4 : (x.c == y.c) = false := by simp [e]
            rw [e1] at x0
            rw [e2] at x1
            rw [e3] at x2
            rw [e4] at x3
            clear e e1 e2 e3 e4
            go_wp2
            go_quiet (fail)
            go_wp2
            go_ret
            exact ⟨by rw [eqB_no (code_ne HN.out)]; rfl, below_drewN HW.out _⟩
      · have e : i = l.length := by omega
        subst e
        go_wp2
        go_ret
        exact ⟨by rw [eqB_yes (code_eq HE.out HF.out)]; rfl, HW.out⟩
  · have hl' : ((l.length : Int) != (m.length : Int)) = true := by simp; omega
    have HN : Hid (l ≠ m) := hide (fun e => hl (by rw [e]))
    go_enter Try.func56, Try.ntmps56
    go_wp2
    go_ret
    exact ⟨by rw [eqB_no HN.out]; rfl, Below.refl _ _⟩

set_option maxRecDepth 100000 in
set_option maxHeartbeats 8000000 in
theorem eqo_any (u v : Value) (l m : List Int) (w : World) (hu : IntsAt w u l) (hv : IntsAt w v m) :
    Calls Try.prog 30 #[u, v] w fun e w' => e = .returned (.bool (eqB l m)) ∧ Below w.heap.size w w' := by
  have HU := hide hu
  have HV := hide hv
  obtain ⟨a, cap, rfl, hcap, hm, _⟩ := hu
  obtain ⟨a', cap', rfl, hcap', hm', _⟩ := hv
  unfold maxLen at hm
  by_cases hl : l.length = m.length
  · have HE := hide hl
    rw [← hl] at hcap' HV ⊢
    clear hl
    go_enter Try.func30, Try.ntmps30
    go_wp2
    go_loopw [13, 5] (fun iv _ wr => ∃ i : Nat, i ≤ l.length ∧ iv = .int .i64 i ∧ Below w.heap.size w wr ∧ ∀ j, j < i → ot l j = ot m j) (fun iv _ _ => l.length - (intOf iv).toNat)
    case atStart => exact ⟨0, Nat.zero_le _, rfl, Below.refl _ _, fun j h => absurd h (Nat.not_lt_zero _)⟩
    case round =>
      obtain ⟨i, hi, rfl, hwr, hf⟩ := hrel
      have HF := hide hf
      have HW := hide hwr
      clear hf hwr
      by_cases hlt : i < l.length
      · obtain ⟨b, off, rfl, k1⟩ := HU.out.at hlt
        obtain ⟨b', off', rfl, k2⟩ := HV.out.at (by rw [← HE.out]; exact hlt)
        replace k1 := (HW.out.cell (World.block_lt_of_cell? w _ k1)).trans k1
        replace k2 := (HW.out.cell (World.block_lt_of_cell? w _ k2)).trans k2
        obtain ⟨x, hx⟩ : ∃ x, x = ot l i := ⟨_, rfl⟩
        obtain ⟨y, hy⟩ : ∃ y, y = ot m i := ⟨_, rfl⟩
        rw [← hx] at k1
        rw [← hy] at k2
        have HX := hide hx
        have HY := hide hy
        clear hx hy
        by_cases hxy : x = y
        · subst hxy
          go_wp2
          go_quiet (fail)
          go_wp2
          go_roundw
          case rel => exact ⟨i + 1, by omega, by go_num, below_drewN HW.out _, fun j hj => by
            rcases Nat.lt_or_ge j i with h | h
            · exact HF.out j h
            · have e : j = i := by omega
              subst e
              rw [← HX.out]; exact HY.out⟩
          case measure => simp [intOf]; omega
        · have HN : Hid (ot l i ≠ ot m i) := hide (by rw [← HX.out, ← HY.out]; exact hxy)
          have q0 : (x != y) = true := by simp [hxy]
          go_wp2
          go_quiet (fail)
          go_wp2
          go_ret
          exact ⟨by rw [eqB_no (outs_ne HN.out)]; rfl, below_drewN HW.out _⟩
      · have e : i = l.length := by omega
        subst e
        go_wp2
        go_ret
        exact ⟨by rw [eqB_yes (outs_eq HE.out HF.out)]; rfl, HW.out⟩
  · have hl' : ((l.length : Int) != (m.length : Int)) = true := by simp; omega
    have HN : Hid (l ≠ m) := hide (fun e => hl (by rw [e]))
    go_enter Try.func30, Try.ntmps30
    go_wp2
    go_ret
    exact ⟨by rw [eqB_no HN.out]; rfl, Below.refl _ _⟩

theorem pg_ne {p q : Pg} (h : ¬ (p.ins = q.ins ∧ p.regs = q.regs ∧ p.code = q.code ∧ p.outs = q.outs)) : eqB p q = false := eqB_no (fun e => h (by rw [e]; exact ⟨rfl, rfl, rfl, rfl⟩))
theorem pg_eq {p q : Pg} (h1 : p.ins = q.ins) (h2 : p.regs = q.regs) (h3 : p.code = q.code) (h4 : p.outs = q.outs) : p = q := by
  obtain ⟨a, b, c, d⟩ := p
  obtain ⟨a', b', c', d'⟩ := q
  simp only at h1 h2 h3 h4
  rw [h1, h2, h3, h4]

set_option maxRecDepth 100000 in
set_option maxHeartbeats 8000000 in
theorem same_any (u v : Value) (p q : Pg) (w : World) (hu : PgAt w u p) (hv : PgAt w v q) :
    Calls Try.prog 33 #[u, v] w fun e w' => e = .returned (.bool (eqB p q)) ∧ Below w.heap.size w w' := by
  obtain ⟨ca, cc, oa, oc, rfl, hc, ho⟩ := hu
  obtain ⟨ca2, cc2, oa2, oc2, rfl, hc2, ho2⟩ := hv
  have KC := hide hc
  have KO := hide ho
  have LC := hide hc2
  have LO := hide ho2
  clear hc ho hc2 ho2
  go_enter Try.func33, Try.ntmps33
  go_upto_region 1 with fail
  have hb := below_alloc w (.cells #[.int .i64 p.ins, .int .i64 p.regs, .slice ca p.code.length cc, .slice oa p.outs.length oc] 25)
  have hb2 := below_alloc (w.alloc (.cells #[.int .i64 p.ins, .int .i64 p.regs, .slice ca p.code.length cc, .slice oa p.outs.length oc] 25)) (.cells #[.int .i64 q.ins, .int .i64 q.regs, .slice ca2 q.code.length cc2, .slice oa2 q.outs.length oc2] 25)
  have PX := hide ((Box4.new w 25 (.int .i64 p.ins) (.int .i64 p.regs) (.slice ca p.code.length cc) (.slice oa p.outs.length oc)).step hb2)
  have PY := hide (Box4.new (w.alloc (.cells #[.int .i64 p.ins, .int .i64 p.regs, .slice ca p.code.length cc, .slice oa p.outs.length oc] 25)) 25 (.int .i64 q.ins) (.int .i64 q.regs) (.slice ca2 q.code.length cc2) (.slice oa2 q.outs.length oc2))
  rw [World.size_alloc] at PY
  replace KC := hide ((KC.out.below hb).below hb2)
  replace KO := hide ((KO.out.below hb).below hb2)
  replace LC := hide ((LC.out.below hb).below hb2)
  replace LO := hide ((LO.out.below hb).below hb2)
  have HB := hide (hb.trans (hb2.mono hb.size))
  clear hb hb2
  generalize (w.alloc (.cells #[.int .i64 p.ins, .int .i64 p.regs, .slice ca p.code.length cc, .slice oa p.outs.length oc] 25)).alloc (.cells #[.int .i64 q.ins, .int .i64 q.regs, .slice ca2 q.code.length cc2, .slice oa2 q.outs.length oc2] 25) = w1 at *
  obtain ⟨B, hB⟩ : ∃ B, B = w.heap.size := ⟨_, rfl⟩
  obtain ⟨C, hC⟩ : ∃ C, C = w.heap.size + 1 := ⟨_, rfl⟩
  have HZ := hide hB
  have HC2 := hide hC
  rw [← hC] at PY ⊢
  rw [← hB] at PX ⊢
  clear hB hC
  have c0 := PX.out.cell0
  have c1 := PX.out.cell1
  have c2 := PX.out.cell2
  have c3 := PX.out.cell3
  have d0 := PY.out.cell0
  have d1 := PY.out.cell1
  have d2 := PY.out.cell2
  have d3 := PY.out.cell3
  by_cases q1 : p.ins = q.ins
  · by_cases q2 : p.regs = q.regs
    · have Q1 := hide q1
      have Q2 := hide q2
      have q1' : (p.ins == q.ins) = true := by simp [q1]
      have q2' : (p.regs == q.regs) = true := by simp [q2]
      go_wp2_with fail
      refine (eqc_any _ _ p.code q.code _ KC.out LC.out).mono ?_
      rintro e w2 ⟨rfl, hb⟩
      replace KO := hide (KO.out.below hb)
      replace LO := hide (LO.out.below hb)
      replace PX := hide (PX.out.step hb)
      replace PY := hide (PY.out.step hb)
      replace HB := hide (HB.out.trans (hb.mono HB.out.size))
      clear hb
      clear c0 c1 c2 c3 d0 d1 d2 d3
      have c0 := PX.out.cell0
      have c1 := PX.out.cell1
      have c2 := PX.out.cell2
      have c3 := PX.out.cell3
      have d0 := PY.out.cell0
      have d1 := PY.out.cell1
      have d2 := PY.out.cell2
      have d3 := PY.out.cell3
      by_cases q3 : p.code = q.code
      · rw [eqB_yes q3]
        have Q3 := hide q3
        clear q3
        go_wp2_with fail
        refine (eqo_any _ _ p.outs q.outs _ KO.out LO.out).mono ?_
        rintro e w3 ⟨rfl, hb⟩
        replace HB := hide (HB.out.trans (hb.mono HB.out.size))
        clear hb
        by_cases q4 : p.outs = q.outs
        · rw [eqB_yes q4]
          have Q4 := hide q4
          clear q4
          go_wp2
          go_ret
          exact ⟨by rw [eqB_yes (pg_eq Q1.out Q2.out Q3.out Q4.out)]; rfl, HB.out⟩
        · rw [eqB_no q4]
          have Q4 := hide q4
          clear q4
          go_wp2
          go_ret
          exact ⟨by rw [pg_ne (fun h => Q4.out h.2.2.2)]; rfl, HB.out⟩
      · rw [eqB_no q3]
        have Q3 := hide q3
        clear q3
        go_wp2
        go_ret
        exact ⟨by rw [pg_ne (fun h => Q3.out h.2.2.1)]; rfl, HB.out⟩
    · have q1' : (p.ins == q.ins) = true := by simp [q1]
      have q2' : (p.regs == q.regs) = false := by simp [q2]
      have Q2 := hide q2
      clear q1 q2
      go_wp2
      go_ret
      exact ⟨by rw [pg_ne (fun h => Q2.out h.2.1)]; rfl, HB.out⟩
  · have q1' : (p.ins == q.ins) = false := by simp [q1]
    have Q1 := hide q1
    clear q1
    go_wp2
    go_ret
    exact ⟨by rw [pg_ne (fun h => Q1.out h.1)]; rfl, HB.out⟩
end Go.Proofs.Ytcciojlbfaanmaa
