/- The document's Same; whether a program is long; what an instruction asks. -/
import Derived.Test.YtheakienigmkhaaPgSame
namespace Go.Proofs.Ytheakienigmkhaa
open Go.RowKit

set_option maxRecDepth 100000 in
set_option maxHeartbeats 16000000 in
theorem rsame_any (u v : Value) (p q : Pg) (w : World) (hu : PgAt w u p) (hv : PgAt w v q) :
    Calls Try.prog 20 #[u, v] w fun e w' => e = .returned (.bool (eqB p q)) ∧ Below w.heap.size w w' := by
  obtain ⟨ca, cc, oa, oc, rfl, hc, ho⟩ := hu
  obtain ⟨ca2, cc2, oa2, oc2, rfl, hc2, ho2⟩ := hv
  have KC := hide hc
  have KO := hide ho
  have LC := hide hc2
  have LO := hide ho2
  have MC : Hid (p.code.length ≤ 9223372036854775807) := hide (by obtain ⟨_, _, he, h1, h2, _⟩ := hc; simp only [Value.slice.injEq] at he; unfold maxLen at h2; omega)
  have MO : Hid (p.outs.length ≤ 9223372036854775807) := hide (by obtain ⟨_, _, he, h1, h2, _⟩ := ho; simp only [Value.slice.injEq] at he; unfold maxLen at h2; omega)
  clear hc ho hc2 ho2
  go_enter Try.func20, Try.ntmps20
  go_upto_region 1 with fail
  have hb := below_alloc w (.cells #[.int .i64 p.ins, .int .i64 p.regs, .slice ca p.code.length cc, .slice oa p.outs.length oc] 25)
  have hb2 := below_alloc (w.alloc (.cells #[.int .i64 p.ins, .int .i64 p.regs, .slice ca p.code.length cc, .slice oa p.outs.length oc] 25)) (.cells #[.int .i64 q.ins, .int .i64 q.regs, .slice ca2 q.code.length cc2, .slice oa2 q.outs.length oc2] 25)
  have PX := hide ((Box4.new w 25 (.int .i64 p.ins) (.int .i64 p.regs) (.slice ca p.code.length cc) (.slice oa p.outs.length oc)).step hb2)
  have PY := hide (Box4.new (w.alloc (.cells #[.int .i64 p.ins, .int .i64 p.regs, .slice ca p.code.length cc, .slice oa p.outs.length oc] 25)) 25 (.int .i64 q.ins) (.int .i64 q.regs) (.slice ca2 q.code.length cc2) (.slice oa2 q.outs.length oc2))
  rw [World.size_alloc] at PY
  replace KC := hide ((KC.out.below hb).below hb2)
  replace KO := hide ((KO.out.below hb).below hb2)
  replace LC := hide ((LC.out.below hb).below hb2)
  replace LO := hide ((LO.out.below hb).below hb2)
  have HB := hide (hb.trans (hb2.mono hb.size))
  clear hb hb2
  generalize (w.alloc (.cells #[.int .i64 p.ins, .int .i64 p.regs, .slice ca p.code.length cc, .slice oa p.outs.length oc] 25)).alloc (.cells #[.int .i64 q.ins, .int .i64 q.regs, .slice ca2 q.code.length cc2, .slice oa2 q.outs.length oc2] 25) = w1 at *
  obtain ⟨B, hB⟩ : ∃ B, B = w.heap.size := ⟨_, rfl⟩
  obtain ⟨C, hC⟩ : ∃ C, C = w.heap.size + 1 := ⟨_, rfl⟩
  have HZ := hide hB
  have HC2 := hide hC
  rw [← hC] at PY ⊢
  rw [← hB] at PX ⊢
  clear hB hC
  have c0 := PX.out.cell0
  have c1 := PX.out.cell1
  have c2 := PX.out.cell2
  have c3 := PX.out.cell3
  have d0 := PY.out.cell0
  have d1 := PY.out.cell1
  have d2 := PY.out.cell2
  have d3 := PY.out.cell3
  by_cases q1 : p.ins = q.ins
  case neg =>
    have z1 : (p.ins != q.ins) = true := by simp [q1]
    have Q1 := hide q1
    clear q1
    go_wp2
    go_ret
    exact ⟨by rw [pg_ne (fun h => Q1.out (h.1))]; rfl, HB.out⟩
  have z1 : (p.ins != q.ins) = false := by simp [q1]
  by_cases q2 : p.regs = q.regs
  case neg =>
    have z2 : (p.regs != q.regs) = true := by simp [q2]
    have Q2 := hide q2
    clear q2
    go_wp2
    go_ret
    exact ⟨by rw [pg_ne (fun h => Q2.out (h.2.1))]; rfl, HB.out⟩
  have z2 : (p.regs != q.regs) = false := by simp [q2]
  by_cases q3 : p.code.length = q.code.length
  case neg =>
    have z3 : ((p.code.length : Int) != (q.code.length : Int)) = true := by simp; omega
    have Q3 := hide q3
    clear q3
    go_wp2
    go_ret
    exact ⟨by rw [pg_ne (fun h => Q3.out (by rw [h.2.2.1]))]; rfl, HB.out⟩
  have z3 : ((p.code.length : Int) != (q.code.length : Int)) = false := by simp; omega
  by_cases q4 : p.outs.length = q.outs.length
  case neg =>
    have z4 : ((p.outs.length : Int) != (q.outs.length : Int)) = true := by simp; omega
    have Q4 := hide q4
    clear q4
    go_wp2
    go_ret
    exact ⟨by rw [pg_ne (fun h => Q4.out (by rw [h.2.2.2]))]; rfl, HB.out⟩
  have z4 : ((p.outs.length : Int) != (q.outs.length : Int)) = false := by simp; omega
  have Q1 := hide q1
  have Q2 := hide q2
  have Q3 := hide q3
  have Q4 := hide q4
  clear q1 q2 q3 q4
  go_upto_region 4 with fail
  clear z1 z2 z3 z4
  have mc := MC.out
  have mo := MO.out
  have BB0 := hide (Below.refl w1.heap.size w1)
  go_loopw [5] (fun iv wr => ∃ i : Nat, i ≤ p.code.length ∧ iv = .int .i64 i ∧ Below w1.heap.size w1 wr ∧ ∀ j, j < i → cd p.code j = cd q.code j) (fun iv _ => p.code.length - (intOf iv).toNat)
  case atStart => exact ⟨0, Nat.zero_le _, rfl, Below.refl _ _, fun j h => absurd h (Nat.not_lt_zero _)⟩
  case round =>
    obtain ⟨i, hi, rfl, hwr, hf⟩ := hrel
    have HF := hide hf
    have HW := hide hwr
    clear hf hwr c0 c1 c2 c3 d0 d1 d2 d3
    replace PX := hide (PX.out.step HW.out)
    replace PY := hide (PY.out.step HW.out)
    replace HB := hide (HB.out.trans (HW.out.mono HB.out.size))
    have c0 := PX.out.cell0
    have c1 := PX.out.cell1
    have c2 := PX.out.cell2
    have c3 := PX.out.cell3
    have d0 := PY.out.cell0
    have d1 := PY.out.cell1
    have d2 := PY.out.cell2
    have d3 := PY.out.cell3
    by_cases hlt : i < p.code.length
    · obtain ⟨b, off, rfl, k1⟩ := KC.out.at hlt
      have hlt2 : i < q.code.length := by have := Q3.out; omega
      obtain ⟨b', off', rfl, k2⟩ := LC.out.at hlt2
      replace k1 := k1.step HW.out
      replace k2 := k2.step HW.out
      obtain ⟨x, hx⟩ : ∃ x, x = cd p.code i := ⟨_, rfl⟩
      obtain ⟨y, hy⟩ : ∃ y, y = cd q.code i := ⟨_, rfl⟩
      rw [← hx] at k1
      rw [← hy] at k2
      have HX := hide hx
      have HY := hide hy
      clear hx hy
      have x0 := k1.cell0
      have x1 := k1.cell1
      have x2 := k1.cell2
      have x3 := k1.cell3
      have x4 := k1.cell4
      have y0 := k2.cell0
      have y1 := k2.cell1
      have y2 := k2.cell2
      have y3 := k2.cell3
      have y4 := k2.cell4
      clear k1 k2
      by_cases hxy : x = y
      · subst hxy
        go_wp2
        go_quiet (fail)
        go_wp2
        go_roundw
        case rel => exact ⟨i + 1, by omega, by go_num, below_drewN HW.out _, fun j hj => by
          rcases Nat.lt_or_ge j i with h | h
          · exact HF.out j h
          · have e : j = i := by omega
            subst e
            rw [← HX.out]; exact HY.out⟩
        case measure => simp [intOf]; omega
      · have HN : Hid (cd p.code i ≠ cd q.code i) := hide (by rw [← HX.out, ← HY.out]; exact hxy)
        rcases ins_ne hxy with e | ⟨e1, e⟩ | ⟨e1, e2, e⟩ | ⟨e1, e2, e3, e⟩ | ⟨e1, e2, e3, e4, e⟩
        · have q0 : (x.op == y.op) = false := by simp [e]
          clear e
          go_wp2
          go_quiet (fail)
          go_wp2
          go_ret
          exact ⟨by rw [pg_ne (fun h => code_ne HN.out h.2.2.1)]; rfl, below_drewN HB.out _⟩
        · have q1 : (x.to == y.to) = false := by simp [e]
          rw [e1] at x0
          clear e e1
          go_wp2
          go_quiet (fail)
          go_wp2
          go_ret
          exact ⟨by rw [pg_ne (fun h => code_ne HN.out h.2.2.1)]; rfl, below_drewN HB.out _⟩
        · have q2 : (x.a == y.a) = false := by simp [e]
          rw [e1] at x0
          rw [e2] at x1
          clear e e1 e2
          go_wp2
          go_quiet (fail)
          go_wp2
          go_ret
          exact ⟨by rw [pg_ne (fun h => code_ne HN.out h.2.2.1)]; rfl, below_drewN HB.out _⟩
        · have q3 : (x.b == y.b) = false := by simp [e]
          rw [e1] at x0
          rw [e2] at x1
          rw [e3] at x2
          clear e e1 e2 e3
          go_wp2
          go_quiet (fail)
          go_wp2
          go_ret
          exact ⟨by rw [pg_ne (fun h => code_ne HN.out h.2.2.1)]; rfl, below_drewN HB.out _⟩
        · have q4 : (x.c == y.c) = false := by simp [e]
          rw [e1] at x0
          rw [e2] at x1
          rw [e3] at x2
          rw [e4] at x3
          clear e e1 e2 e3 e4
          go_wp2
          go_quiet (fail)
          go_wp2
          go_ret
          exact ⟨by rw [pg_ne (fun h => code_ne HN.out h.2.2.1)]; rfl, below_drewN HB.out _⟩
    · have e : i = p.code.length := by omega
      subst e
      have HE := hide (code_eq Q3.out HF.out)
      clear HF
      replace KO := hide (KO.out.below HW.out)
      replace LO := hide (LO.out.below HW.out)
      clear HW
      generalize wr = w2 at *
      go_upto_region 9 with fail
      go_loopw [6] (fun iv wq => ∃ i : Nat, i ≤ p.outs.length ∧ iv = .int .i64 i ∧ Below w2.heap.size w2 wq ∧ ∀ j, j < i → ot p.outs j = ot q.outs j) (fun iv _ => p.outs.length - (intOf iv).toNat)
      case atStart => exact ⟨0, Nat.zero_le _, rfl, Below.refl _ _, fun j h => absurd h (Nat.not_lt_zero _)⟩
      case round =>
        obtain ⟨i, hi, rfl, hwr, hf⟩ := hrel
        have HF := hide hf
        have HW := hide hwr
        clear hf hwr c0 c1 c2 c3 d0 d1 d2 d3
        replace PX := hide (PX.out.step HW.out)
        replace PY := hide (PY.out.step HW.out)
        replace HB := hide (HB.out.trans (HW.out.mono HB.out.size))
        have c0 := PX.out.cell0
        have c1 := PX.out.cell1
        have c2 := PX.out.cell2
        have c3 := PX.out.cell3
        have d0 := PY.out.cell0
        have d1 := PY.out.cell1
        have d2 := PY.out.cell2
        have d3 := PY.out.cell3
        by_cases hlt : i < p.outs.length
        · obtain ⟨b, off, rfl, k1⟩ := KO.out.at hlt
          have hlt2 : i < q.outs.length := by have := Q4.out; omega
          obtain ⟨b', off', rfl, k2⟩ := LO.out.at hlt2
          replace k1 := (HW.out.cell (World.block_lt_of_cell? w2 _ k1)).trans k1
          replace k2 := (HW.out.cell (World.block_lt_of_cell? w2 _ k2)).trans k2
          obtain ⟨x, hx⟩ : ∃ x, x = ot p.outs i := ⟨_, rfl⟩
          obtain ⟨y, hy⟩ : ∃ y, y = ot q.outs i := ⟨_, rfl⟩
          rw [← hx] at k1
          rw [← hy] at k2
          have HX := hide hx
          have HY := hide hy
          clear hx hy
          by_cases hxy : x = y
          · subst hxy
            go_wp2
            go_quiet (fail)
            go_wp2
            go_roundw
            case rel => exact ⟨i + 1, by omega, by go_num, below_drewN HW.out _, fun j hj => by
              rcases Nat.lt_or_ge j i with h | h
              · exact HF.out j h
              · have e : j = i := by omega
                subst e
                rw [← HX.out]; exact HY.out⟩
            case measure => simp [intOf]; omega
          · have HN : Hid (ot p.outs i ≠ ot q.outs i) := hide (by rw [← HX.out, ← HY.out]; exact hxy)
            have q0 : (x != y) = true := by simp [hxy]
            go_wp2
            go_quiet (fail)
            go_wp2
            go_ret
            exact ⟨by rw [pg_ne (fun h => outs_ne HN.out h.2.2.2)]; rfl, below_drewN HB.out _⟩
        · have e : i = p.outs.length := by omega
          subst e
          go_wp2
          go_ret
          exact ⟨by rw [eqB_yes (pg_eq Q1.out Q2.out HE.out (outs_eq Q4.out HF.out))]; rfl, HB.out⟩

def longB (p : Pg) : Bool := decide (400 < p.code.length) || decide (400 < p.outs.length)
theorem long_no {p : Pg} (h : longB p = false) : p.code.length ≤ 400 ∧ p.outs.length ≤ 400 := by
  unfold longB at h
  simp only [Bool.or_eq_false_iff, decide_eq_false_iff_not] at h
  omega

def asksL (i : Ins) : List Int := if i.op = 3 ∨ i.op = 4 then [i.a, i.b] else if 1 ≤ i.op ∧ i.op ≤ 8 then [i.a] else []
def AsksR (w' : World) (e : Ending) (i : Ins) : Prop := ∃ v, e = .returned v ∧ IntsAt w' v (asksL i)
theorem ints2 (w : World) (e : TypeId) (x y : Int) {n : Nat} (hn : n = w.heap.size) : IntsAt (w.alloc (.cells #[.int .i64 x, .int .i64 y] e)) (.slice (some ⟨n, 0, none⟩) 2 2) [x, y] := by
  subst hn
  refine ⟨_, 2, rfl, Nat.le_refl _, by simp [maxLen], fun _ => ⟨_, _, rfl, fun i hi => ?_⟩⟩
  have hh := heap_alloc_new w (.cells #[.int .i64 x, .int .i64 y] e)
  generalize w.alloc (.cells #[.int .i64 x, .int .i64 y] e) = W at hh ⊢
  generalize w.heap.size = B at hh ⊢
  match i, hi with
  | 0, _ => simp [World.cell?, hh, ot]
  | 1, _ => simp [World.cell?, hh, ot]
theorem ints1 (w : World) (e : TypeId) (x : Int) {n : Nat} (hn : n = w.heap.size) : IntsAt (w.alloc (.cells #[.int .i64 x] e)) (.slice (some ⟨n, 0, none⟩) 1 1) [x] := by
  subst hn
  refine ⟨_, 1, rfl, Nat.le_refl _, by simp [maxLen], fun _ => ⟨_, _, rfl, fun i hi => ?_⟩⟩
  have hh := heap_alloc_new w (.cells #[.int .i64 x] e)
  generalize w.alloc (.cells #[.int .i64 x] e) = W at hh ⊢
  generalize w.heap.size = B at hh ⊢
  match i, hi with
  | 0, _ => simp [World.cell?, hh, ot]
theorem ints0 (w : World) : IntsAt w (.slice none 0 0) [] := ⟨none, 0, rfl, Nat.le_refl _, Nat.zero_le _, fun h => absurd rfl h⟩
set_option maxRecDepth 100000 in
set_option maxHeartbeats 4000000 in
theorem asks_any (i : Ins) (w : World) :
    Calls Try.prog 54 #[.agg #[.int .i64 i.op, .int .i64 i.to, .int .i64 i.a, .int .i64 i.b, .int .i64 i.c]] w fun e w' => AsksR w' e i ∧ Below w.heap.size w w' := by
  obtain ⟨op, to, a, b, c⟩ := i
  dsimp only
  by_cases h3 : op = 3
  · subst h3
    go_enter Try.func54, Try.ntmps54
    go_wp2
    go_ret
    exact ⟨⟨_, rfl, by rw [show asksL _ = _ from if_pos (by dsimp only; omega)]; exact ints2 _ _ _ _ (by rw [World.size_alloc])⟩, (below_alloc _ _).trans ((below_alloc _ _).mono (by rw [World.size_alloc]; omega))⟩
  by_cases h4 : op = 4
  · subst h4
    go_enter Try.func54, Try.ntmps54
    go_wp2
    go_ret
    exact ⟨⟨_, rfl, by rw [show asksL _ = _ from if_pos (by dsimp only; omega)]; exact ints2 _ _ _ _ (by rw [World.size_alloc])⟩, (below_alloc _ _).trans ((below_alloc _ _).mono (by rw [World.size_alloc]; omega))⟩
  by_cases h1 : op = 1
  · subst h1
    go_enter Try.func54, Try.ntmps54
    go_wp2
    go_ret
    exact ⟨⟨_, rfl, by rw [show asksL _ = _ from (if_neg (by dsimp only; omega)).trans (if_pos (by dsimp only; omega))]; exact ints1 _ _ _ (by rw [World.size_alloc])⟩, (below_alloc _ _).trans ((below_alloc _ _).mono (by rw [World.size_alloc]; omega))⟩
  by_cases h2 : op = 2
  · subst h2
    go_enter Try.func54, Try.ntmps54
    go_wp2
    go_ret
    exact ⟨⟨_, rfl, by rw [show asksL _ = _ from (if_neg (by dsimp only; omega)).trans (if_pos (by dsimp only; omega))]; exact ints1 _ _ _ (by rw [World.size_alloc])⟩, (below_alloc _ _).trans ((below_alloc _ _).mono (by rw [World.size_alloc]; omega))⟩
  by_cases h5 : op = 5
  · subst h5
    go_enter Try.func54, Try.ntmps54
    go_wp2
    go_ret
    exact ⟨⟨_, rfl, by rw [show asksL _ = _ from (if_neg (by dsimp only; omega)).trans (if_pos (by dsimp only; omega))]; exact ints1 _ _ _ (by rw [World.size_alloc])⟩, (below_alloc _ _).trans ((below_alloc _ _).mono (by rw [World.size_alloc]; omega))⟩
  by_cases h6 : op = 6
  · subst h6
    go_enter Try.func54, Try.ntmps54
    go_wp2
    go_ret
    exact ⟨⟨_, rfl, by rw [show asksL _ = _ from (if_neg (by dsimp only; omega)).trans (if_pos (by dsimp only; omega))]; exact ints1 _ _ _ (by rw [World.size_alloc])⟩, (below_alloc _ _).trans ((below_alloc _ _).mono (by rw [World.size_alloc]; omega))⟩
  by_cases h7 : op = 7
  · subst h7
    go_enter Try.func54, Try.ntmps54
    go_wp2
    go_ret
    exact ⟨⟨_, rfl, by rw [show asksL _ = _ from (if_neg (by dsimp only; omega)).trans (if_pos (by dsimp only; omega))]; exact ints1 _ _ _ (by rw [World.size_alloc])⟩, (below_alloc _ _).trans ((below_alloc _ _).mono (by rw [World.size_alloc]; omega))⟩
  by_cases h8 : op = 8
  · subst h8
    go_enter Try.func54, Try.ntmps54
    go_wp2
    go_ret
    exact ⟨⟨_, rfl, by rw [show asksL _ = _ from (if_neg (by dsimp only; omega)).trans (if_pos (by dsimp only; omega))]; exact ints1 _ _ _ (by rw [World.size_alloc])⟩, (below_alloc _ _).trans ((below_alloc _ _).mono (by rw [World.size_alloc]; omega))⟩
  go_enter Try.func54, Try.ntmps54
  go_wp2
  go_ret
  exact ⟨⟨_, rfl, by rw [show asksL _ = _ from (if_neg (by dsimp only; omega)).trans (if_neg (by dsimp only; omega))]; exact ints0 _⟩, below_alloc _ _⟩
set_option maxRecDepth 100000 in
set_option maxHeartbeats 4000000 in
theorem rasks_any (i : Ins) (w : World) :
    Calls Try.prog 37 #[.agg #[.int .i64 i.op, .int .i64 i.to, .int .i64 i.a, .int .i64 i.b, .int .i64 i.c]] w fun e w' => AsksR w' e i ∧ Below w.heap.size w w' := by
  obtain ⟨op, to, a, b, c⟩ := i
  dsimp only
  by_cases h3 : op = 3
  · subst h3
    go_enter Try.func37, Try.ntmps37
    go_wp2
    go_ret
    exact ⟨⟨_, rfl, by rw [show asksL _ = _ from if_pos (by dsimp only; omega)]; exact ints2 _ _ _ _ (by rw [World.size_alloc])⟩, (below_alloc _ _).trans ((below_alloc _ _).mono (by rw [World.size_alloc]; omega))⟩
  by_cases h4 : op = 4
  · subst h4
    go_enter Try.func37, Try.ntmps37
    go_wp2
    go_ret
    exact ⟨⟨_, rfl, by rw [show asksL _ = _ from if_pos (by dsimp only; omega)]; exact ints2 _ _ _ _ (by rw [World.size_alloc])⟩, (below_alloc _ _).trans ((below_alloc _ _).mono (by rw [World.size_alloc]; omega))⟩
  by_cases h1 : op = 1
  · subst h1
    go_enter Try.func37, Try.ntmps37
    go_wp2
    go_ret
    exact ⟨⟨_, rfl, by rw [show asksL _ = _ from (if_neg (by dsimp only; omega)).trans (if_pos (by dsimp only; omega))]; exact ints1 _ _ _ (by rw [World.size_alloc])⟩, (below_alloc _ _).trans ((below_alloc _ _).mono (by rw [World.size_alloc]; omega))⟩
  by_cases h2 : op = 2
  · subst h2
    go_enter Try.func37, Try.ntmps37
    go_wp2
    go_ret
    exact ⟨⟨_, rfl, by rw [show asksL _ = _ from (if_neg (by dsimp only; omega)).trans (if_pos (by dsimp only; omega))]; exact ints1 _ _ _ (by rw [World.size_alloc])⟩, (below_alloc _ _).trans ((below_alloc _ _).mono (by rw [World.size_alloc]; omega))⟩
  by_cases h5 : op = 5
  · subst h5
    go_enter Try.func37, Try.ntmps37
    go_wp2
    go_ret
    exact ⟨⟨_, rfl, by rw [show asksL _ = _ from (if_neg (by dsimp only; omega)).trans (if_pos (by dsimp only; omega))]; exact ints1 _ _ _ (by rw [World.size_alloc])⟩, (below_alloc _ _).trans ((below_alloc _ _).mono (by rw [World.size_alloc]; omega))⟩
  by_cases h6 : op = 6
  · subst h6
    go_enter Try.func37, Try.ntmps37
    go_wp2
    go_ret
    exact ⟨⟨_, rfl, by rw [show asksL _ = _ from (if_neg (by dsimp only; omega)).trans (if_pos (by dsimp only; omega))]; exact ints1 _ _ _ (by rw [World.size_alloc])⟩, (below_alloc _ _).trans ((below_alloc _ _).mono (by rw [World.size_alloc]; omega))⟩
  by_cases h7 : op = 7
  · subst h7
    go_enter Try.func37, Try.ntmps37
    go_wp2
    go_ret
    exact ⟨⟨_, rfl, by rw [show asksL _ = _ from (if_neg (by dsimp only; omega)).trans (if_pos (by dsimp only; omega))]; exact ints1 _ _ _ (by rw [World.size_alloc])⟩, (below_alloc _ _).trans ((below_alloc _ _).mono (by rw [World.size_alloc]; omega))⟩
  by_cases h8 : op = 8
  · subst h8
    go_enter Try.func37, Try.ntmps37
    go_wp2
    go_ret
    exact ⟨⟨_, rfl, by rw [show asksL _ = _ from (if_neg (by dsimp only; omega)).trans (if_pos (by dsimp only; omega))]; exact ints1 _ _ _ (by rw [World.size_alloc])⟩, (below_alloc _ _).trans ((below_alloc _ _).mono (by rw [World.size_alloc]; omega))⟩
  have n3 : (op == 3) = false := by simp [h3]
  have n4 : (op == 4) = false := by simp [h4]
  by_cases g1 : 1 ≤ op
  · have g2 : ¬ op ≤ 8 := by omega
    go_enter Try.func37, Try.ntmps37
    go_wp2
    go_ret
    exact ⟨⟨_, rfl, by rw [show asksL _ = _ from (if_neg (by dsimp only; omega)).trans (if_neg (by dsimp only; omega))]; exact ints0 _⟩, below_alloc _ _⟩
  · go_enter Try.func37, Try.ntmps37
    go_wp2
    go_ret
    exact ⟨⟨_, rfl, by rw [show asksL _ = _ from (if_neg (by dsimp only; omega)).trans (if_neg (by dsimp only; omega))]; exact ints0 _⟩, below_alloc _ _⟩
end Go.Proofs.Ytheakienigmkhaa
