/- swagelaw08.ProgCopies answers true at any two programs, and turns nothing that was there. -/
import Derived.Test.YtlbjkfnknkpkiaaDoorPgRSame
import Derived.Test.YtlbjkfnknkpkiaaDoorPgCopy
import Derived.Test.YtlbjkfnknkpkiaaDoorPgLive
namespace Go.Proofs.YtlbjkfnknkpkiaaDoor
open Go.RowKit

/-- a row of one's own that is written: n elements of so many cells -/
def RowW (w : World) (base : Nat) (e : TypeId) (size : Nat) (v : Value) (n : Nat) : Prop :=
  (v = .slice none 0 0 ∧ n = 0) ∨ ∃ g cur, v = .slice (some ⟨g, 0, none⟩) n n ∧ base ≤ g ∧ w.heap[g]? = some (.cells cur e (0, 0)) ∧ cur.size = n * size ∧ n ≤ maxLen
theorem RowW.alloc {w w' : World} {base : Nat} {e : TypeId} {size : Nat} {v : Value} {n : Nat} (h : RowW w base e size v n) (hb : Below w.heap.size w w') : RowW w' base e size v n := by
  rcases h with h | ⟨g, cur, h1, h2, h3, h4⟩
  · exact .inl h
  · exact .inr ⟨g, cur, h1, h2, (hb.block g (Array.getElem?_eq_some_iff.1 h3).1).trans h3, h4⟩
theorem own_cap {w : World} {base : Nat} {e : TypeId} {size : Nat} {a : Option Addr} {n cap k : Nat} {xs : List Value} (h : w.ownsRow base e size (.slice a n cap) k xs) : RowW w base e size (.slice a cap cap) cap := by
  rcases h.2 with ⟨h0, _⟩ | ⟨g, cap', cur, h0, hg, hh, h1, h2, h3, _⟩
  · simp only [Value.slice.injEq] at h0
    obtain ⟨rfl, _, rfl⟩ := h0
    exact .inl ⟨rfl, rfl⟩
  · simp only [Value.slice.injEq] at h0
    obtain ⟨rfl, _, rfl⟩ := h0
    exact .inr ⟨g, cur, rfl, hg, hh, h3, h2⟩
theorem row_set {w : World} {base : Nat} {e : TypeId} {size g n : Nat} (h : RowW w base e size (.slice (some ⟨g, 0, none⟩) n n) n) (o : Nat) (c : Value) : RowW (w.setCell ⟨g, o, none⟩ c) base e size (.slice (some ⟨g, 0, none⟩) n n) n := by
  rcases h with ⟨h, _⟩ | ⟨g', cur, h1, h2, h3, h4, h5⟩
  · cases h
  · simp only [Value.slice.injEq, Option.some.injEq, Addr.mk.injEq, and_true] at h1
    subst h1
    refine .inr ⟨g, cur.setIfInBounds o c, rfl, h2, ?_, by simpa using h4, h5⟩
    obtain ⟨hlt, hk⟩ := Array.getElem?_eq_some_iff.1 h3
    show (w.heap.modify g _)[g]? = _
    rw [Array.getElem?_eq_getElem (by rw [Array.size_modify]; exact hlt), Array.getElem_modify_self, hk]
    rfl
theorem row_other {w : World} {base : Nat} {e : TypeId} {size : Nat} {v : Value} {n g : Nat} (h : RowW w base e size v n) {cur : Array Value} {e' : TypeId} (hg : w.heap[g]? = some (.cells cur e' (0, 0))) (hne : e' ≠ e) (o : Nat) (c : Value) : RowW (w.setCell ⟨g, o, none⟩ c) base e size v n := by
  rcases h with h | ⟨g', cur', h1, h2, h3, h4⟩
  · exact .inl h
  · refine .inr ⟨g', cur', h1, h2, ?_, h4⟩
    have : g ≠ g' := by
      intro e1
      subst e1
      rw [h3] at hg
      simp only [Option.some.injEq, Obj.cells.injEq] at hg
      exact hne hg.2.1.symm
    show (w.heap.modify g _)[g']? = _
    rw [Array.getElem?_modify, if_neg this]; exact h3
theorem row_block {w : World} {base : Nat} {e : TypeId} {size g n : Nat} (h : RowW w base e size (.slice (some ⟨g, 0, none⟩) n n) n) : base ≤ g ∧ ∃ cur, w.heap[g]? = some (.cells cur e (0, 0)) ∧ cur.size = n * size := by
  rcases h with ⟨h, _⟩ | ⟨g', cur, h1, h2, h3, h4, h5⟩
  · cases h
  · simp only [Value.slice.injEq, Option.some.injEq, Addr.mk.injEq, and_true] at h1
    subst h1
    exact ⟨h2, cur, h3, h4⟩
theorem row_cell {w : World} {base : Nat} {e : TypeId} {size g n : Nat} (h : RowW w base e size (.slice (some ⟨g, 0, none⟩) n n) n) {j : Nat} (hj : j < n * size) : (∃ c, w.cell? ⟨g, j, none⟩ = some c) ∧ w.frozen? ⟨g, j, none⟩ = false := by
  obtain ⟨_, cur, h3, h4⟩ := row_block h
  refine ⟨⟨cur[j]'(by omega), ?_⟩, ?_⟩
  · simp [World.cell?, h3, h4, hj]
  · simp [World.frozen?, h3]

theorem row_max {w : World} {base : Nat} {e : TypeId} {size : Nat} {v : Value} {n : Nat} (h : RowW w base e size v n) : n ≤ 9223372036854775807 := by
  rcases h with ⟨_, rfl⟩ | ⟨_, _, _, _, _, _, h⟩
  · exact Nat.zero_le _
  · exact h
theorem row_some {w : World} {base : Nat} {e : TypeId} {size : Nat} {a : Option Addr} {n : Nat} (h : RowW w base e size (.slice a n n) n) (hn : 0 < n) : ∃ g, a = some ⟨g, 0, none⟩ := by
  rcases h with ⟨_, rfl⟩ | ⟨g, _, h, _⟩
  · omega
  · simp only [Value.slice.injEq] at h
    exact ⟨g, h.1⟩
theorem rows_set {w : World} {base : Nat} {e e' : TypeId} {size size' g n m : Nat} {v : Value} (h : RowW w base e size (.slice (some ⟨g, 0, none⟩) n n) n ∧ RowW w base e' size' v m) (hne : e ≠ e') (o : Nat) (c : Value) :
    RowW (w.setCell ⟨g, o, none⟩ c) base e size (.slice (some ⟨g, 0, none⟩) n n) n ∧ RowW (w.setCell ⟨g, o, none⟩ c) base e' size' v m := by
  obtain ⟨_, cur, hg, _⟩ := row_block h.1
  exact ⟨row_set h.1 o c, row_other h.2 hg hne o c⟩
theorem PgAt.code {w : World} {p : Pg} {x y : Value} {ca oa : Option Addr} {nc cc no oc : Nat} (h : PgAt w (.agg #[x, y, .slice ca nc cc, .slice oa no oc]) p) : CodeAt w (.slice ca nc cc) p.code := by
  obtain ⟨ca', cc', oa', oc', e, h1, _⟩ := h
  simp at e
  obtain ⟨_, _, ⟨rfl, rfl, rfl⟩, _⟩ := e
  exact h1
set_option maxRecDepth 100000 in
set_option maxHeartbeats 16000000 in
theorem pcopies_walk (u v : Value) (p q : Pg) (w : World) (hu : PgAt w u p) (hv : PgAt w v q) :
    Calls Tryd.prog 4 #[u, v] w fun e w' => e = .returned (.bool true) ∧ Below w.heap.size w w' := by
  have HP := hide hu
  have HQ := hide hv
  obtain ⟨ca, cc, oa, oc, rfl, _, _⟩ := hu
  obtain ⟨ca2, cc2, oa2, oc2, rfl, _, _⟩ := hv
  go_enter Tryd.func4, Tryd.ntmps4
  go_upto_region 1 with fail
  have hb := below_alloc w (.cells #[.int .i64 p.ins, .int .i64 p.regs, .slice ca p.code.length cc, .slice oa p.outs.length oc] 25)
  have hb2 := below_alloc (w.alloc (.cells #[.int .i64 p.ins, .int .i64 p.regs, .slice ca p.code.length cc, .slice oa p.outs.length oc] 25)) (.cells #[.int .i64 q.ins, .int .i64 q.regs, .slice ca2 q.code.length cc2, .slice oa2 q.outs.length oc2] 25)
  have PX := hide ((Box4.new w 25 (.int .i64 p.ins) (.int .i64 p.regs) (.slice ca p.code.length cc) (.slice oa p.outs.length oc)).step hb2)
  have PY := hide (Box4.new (w.alloc (.cells #[.int .i64 p.ins, .int .i64 p.regs, .slice ca p.code.length cc, .slice oa p.outs.length oc] 25)) 25 (.int .i64 q.ins) (.int .i64 q.regs) (.slice ca2 q.code.length cc2) (.slice oa2 q.outs.length oc2))
  rw [World.size_alloc] at PY
  replace HP := hide ((HP.out.below hb).below hb2)
  replace HQ := hide ((HQ.out.below hb).below hb2)
  have HB := hide (hb.trans (hb2.mono hb.size))
  clear hb hb2
  generalize (w.alloc (.cells #[.int .i64 p.ins, .int .i64 p.regs, .slice ca p.code.length cc, .slice oa p.outs.length oc] 25)).alloc (.cells #[.int .i64 q.ins, .int .i64 q.regs, .slice ca2 q.code.length cc2, .slice oa2 q.outs.length oc2] 25) = w1 at *
  obtain ⟨B, hB⟩ : ∃ B, B = w.heap.size := ⟨_, rfl⟩
  obtain ⟨C, hC⟩ : ∃ C, C = w.heap.size + 1 := ⟨_, rfl⟩
  have HZ := hide hB
  have HC2 := hide hC
  rw [← hC] at PY ⊢
  rw [← hB] at PX ⊢
  clear hB hC
  go_wp2_with fail
  refine (live_any _).mono ?_
  rintro e w2 ⟨rfl, hb⟩
  replace HP := hide (HP.out.below hb)
  replace HQ := hide (HQ.out.below hb)
  replace PX := hide (PX.out.step hb)
  replace PY := hide (PY.out.step hb)
  replace HB := hide (HB.out.trans (hb.mono HB.out.size))
  clear hb
  have c0 := PX.out.cell0
  have c1 := PX.out.cell1
  have c2 := PX.out.cell2
  have c3 := PX.out.cell3
  have d0 := PY.out.cell0
  have d1 := PY.out.cell1
  have d2 := PY.out.cell2
  have d3 := PY.out.cell3
  go_wp2_with fail
  refine (long_any _ p _ HP.out).mono ?_
  rintro e w3 ⟨rfl, hb⟩
  replace HP := hide (HP.out.below hb)
  replace HQ := hide (HQ.out.below hb)
  replace PX := hide (PX.out.step hb)
  replace PY := hide (PY.out.step hb)
  replace HB := hide (HB.out.trans (hb.mono HB.out.size))
  clear hb
  clear c0 c1 c2 c3 d0 d1 d2 d3
  have c0 := PX.out.cell0
  have c1 := PX.out.cell1
  have c2 := PX.out.cell2
  have c3 := PX.out.cell3
  have d0 := PY.out.cell0
  have d1 := PY.out.cell1
  have d2 := PY.out.cell2
  have d3 := PY.out.cell3
  cases hl : longB p with
  | true =>
    go_wp2
    go_ret
    exact ⟨rfl, HB.out⟩
  | false =>
  have L1 := hide (long_no hl)
  clear hl
  go_wp2_with fail
  refine (long_any _ q _ HQ.out).mono ?_
  rintro e w4 ⟨rfl, hb⟩
  replace HP := hide (HP.out.below hb)
  replace HQ := hide (HQ.out.below hb)
  replace PX := hide (PX.out.step hb)
  replace PY := hide (PY.out.step hb)
  replace HB := hide (HB.out.trans (hb.mono HB.out.size))
  clear hb
  clear c0 c1 c2 c3 d0 d1 d2 d3
  have c0 := PX.out.cell0
  have c1 := PX.out.cell1
  have c2 := PX.out.cell2
  have c3 := PX.out.cell3
  have d0 := PY.out.cell0
  have d1 := PY.out.cell1
  have d2 := PY.out.cell2
  have d3 := PY.out.cell3
  cases hl : longB q with
  | true =>
    go_wp2
    go_ret
    exact ⟨rfl, HB.out⟩
  | false =>
  clear hl
  go_wp2_with fail
  refine (rsame_any _ _ p q _ HP.out HQ.out).mono ?_
  rintro e w5 ⟨rfl, hb⟩
  replace HP := hide (HP.out.below hb)
  replace HQ := hide (HQ.out.below hb)
  replace PX := hide (PX.out.step hb)
  replace PY := hide (PY.out.step hb)
  replace HB := hide (HB.out.trans (hb.mono HB.out.size))
  clear hb
  clear c0 c1 c2 c3 d0 d1 d2 d3
  have c0 := PX.out.cell0
  have c1 := PX.out.cell1
  have c2 := PX.out.cell2
  have c3 := PX.out.cell3
  have d0 := PY.out.cell0
  have d1 := PY.out.cell1
  have d2 := PY.out.cell2
  have d3 := PY.out.cell3
  obtain ⟨sb, hsb⟩ : ∃ s, s = eqB p q := ⟨_, rfl⟩
  rw [← hsb]
  have SB := hide hsb
  clear hsb
  go_wp2_with fail
  refine (same_any _ _ p q _ HP.out HQ.out).mono ?_
  rintro e w6 ⟨rfl, hb⟩
  replace HP := hide (HP.out.below hb)
  replace HQ := hide (HQ.out.below hb)
  replace PX := hide (PX.out.step hb)
  replace PY := hide (PY.out.step hb)
  replace HB := hide (HB.out.trans (hb.mono HB.out.size))
  clear hb
  clear c0 c1 c2 c3 d0 d1 d2 d3
  have c0 := PX.out.cell0
  have c1 := PX.out.cell1
  have c2 := PX.out.cell2
  have c3 := PX.out.cell3
  have d0 := PY.out.cell0
  have d1 := PY.out.cell1
  have d2 := PY.out.cell2
  have d3 := PY.out.cell3
  rw [← SB.out]
  have hn : (sb != sb) = false := by simp
  go_wp2_with fail
  refine (same_any _ _ p p _ HP.out HP.out).mono ?_
  rintro e w7 ⟨rfl, hb⟩
  replace HP := hide (HP.out.below hb)
  replace HQ := hide (HQ.out.below hb)
  replace PX := hide (PX.out.step hb)
  replace PY := hide (PY.out.step hb)
  replace HB := hide (HB.out.trans (hb.mono HB.out.size))
  clear hb
  clear c0 c1 c2 c3 d0 d1 d2 d3
  have c0 := PX.out.cell0
  have c1 := PX.out.cell1
  have c2 := PX.out.cell2
  have c3 := PX.out.cell3
  have d0 := PY.out.cell0
  have d1 := PY.out.cell1
  have d2 := PY.out.cell2
  have d3 := PY.out.cell3
  rw [eqB_yes rfl]
  go_wp2_with fail
  refine (live_any _).mono ?_
  rintro e w8 ⟨rfl, hb⟩
  replace HP := hide (HP.out.below hb)
  replace PX := hide (PX.out.step hb)
  replace HB := hide (HB.out.trans (hb.mono HB.out.size))
  clear hb
  clear c0 c1 c2 c3 d0 d1 d2 d3
  clear PY HQ
  have c0 := PX.out.cell0
  have c1 := PX.out.cell1
  have c2 := PX.out.cell2
  have c3 := PX.out.cell3
  clear hn
  go_upto_region 9 with fail
  clear SB
  have lc := L1.out.1
  go_loopw [6, 7, 8, 9] (fun kv _ _ _ wr => ∃ k : Nat, k ≤ p.code.length ∧ kv = .int .i64 k ∧ Below w8.heap.size w8 wr) (fun kv _ _ _ _ => p.code.length - (intOf kv).toNat)
  case atStart => exact ⟨0, Nat.zero_le _, rfl, Below.refl _ _⟩
  case round =>
    obtain ⟨k, hk, rfl, hwr⟩ := hrel
    have HW := hide hwr
    clear hwr c0 c1 c2 c3
    replace HP := hide (HP.out.below HW.out)
    replace PX := hide (PX.out.step HW.out)
    have c0 := PX.out.cell0
    have c1 := PX.out.cell1
    have c2 := PX.out.cell2
    have c3 := PX.out.cell3
    by_cases hlt : k < p.code.length
    · have hk1 := (PgAt.code HP.out).at hlt
      obtain ⟨b, off, rfl, k1⟩ := hk1
      obtain ⟨x, hx⟩ : ∃ x, x = cd p.code k := ⟨_, rfl⟩
      rw [← hx] at k1
      clear hx
      have IX := hide k1
      clear k1
      have x0 := IX.out.cell0
      have x1 := IX.out.cell1
      have x2 := IX.out.cell2
      have x3 := IX.out.cell3
      have x4 := IX.out.cell4
      go_wp2_with fail
      refine (asks_any x _).mono ?_
      rintro e wa ⟨⟨va, rfl, hva⟩, hb⟩
      have VA := hide hva
      obtain ⟨a1, c1', rfl, _, _, _⟩ := hva
      clear x0 x1 x2 x3 x4 c0 c1 c2 c3
      replace PX := hide (PX.out.step hb)
      replace IX := hide (IX.out.step hb)
      replace HW := hide (HW.out.trans (hb.mono HW.out.size))
      clear hb
      have c0 := PX.out.cell0
      have c1 := PX.out.cell1
      have c2 := PX.out.cell2
      have c3 := PX.out.cell3
      have x0 := IX.out.cell0
      have x1 := IX.out.cell1
      have x2 := IX.out.cell2
      have x3 := IX.out.cell3
      have x4 := IX.out.cell4
      go_wp2_with fail
      refine (rasks_any x _).mono ?_
      rintro e wb ⟨⟨vb, rfl, hvb⟩, hb⟩
      have VB := hide hvb
      obtain ⟨a2, c2', rfl, _, _, _⟩ := hvb
      clear x0 x1 x2 x3 x4 c0 c1 c2 c3
      replace VA := hide (VA.out.below hb)
      replace PX := hide (PX.out.step hb)
      replace HW := hide (HW.out.trans (hb.mono HW.out.size))
      clear hb
      clear IX
      have MX : Hid ((asksL x).length ≤ 2) := hide (by unfold asksL; split; exact Nat.le_refl _; split; exact (by decide : 1 ≤ 2); exact Nat.zero_le _)
      generalize asksL x = l at *
      have hm := MX.out
      have hn : ((l.length : Int) != (l.length : Int)) = false := by simp
      go_upto_region 16 with fail
      clear hn
      generalize wb = w9 at *
      go_loopw [9] (fun iv wq => ∃ i : Nat, i ≤ l.length ∧ iv = .int .i64 i ∧ Below w9.heap.size w9 wq) (fun iv _ => l.length - (intOf iv).toNat)
      case atStart => exact ⟨0, Nat.zero_le _, rfl, Below.refl _ _⟩
      case round =>
        obtain ⟨i, hi, rfl, hwr⟩ := hrel
        have HV := hide hwr
        clear hwr
        by_cases hlt2 : i < l.length
        · have y1 := (VA.out.below HV.out).at hlt2
          obtain ⟨b1, o1, rfl, y1⟩ := y1
          have y2 := (VB.out.below HV.out).at hlt2
          obtain ⟨b2, o2, rfl, y2⟩ := y2
          generalize ot l i = z at *
          go_wp2
          go_quiet (fail)
          go_wp2
          go_roundw
          case rel => exact ⟨i + 1, by omega, by go_num, below_drewN HV.out _⟩
          case measure => simp [intOf]; omega
        · have e : i = l.length := by omega
          subst e
          go_wp2
          go_roundw
          case rel => exact ⟨k + 1, by omega, by go_num, HW.out.trans (HV.out.mono HW.out.size)⟩
          case measure => simp [intOf]; omega
    · have e : k = p.code.length := by omega
      subst e
      replace HB := hide (HB.out.trans (HW.out.mono HB.out.size))
      clear HW
      generalize wr = w9 at *
      go_wp2_with fail
      refine (rcopy_any _ p _ HP.out L1.out).mono ?_
      rintro e w10 ⟨⟨vo, rfl, ho⟩, hb⟩
      have OL := hide ho
      clear ho c0 c1 c2 c3
      replace HP := hide (HP.out.below hb)
      replace PX := hide (PX.out.step hb)
      replace HB := hide (HB.out.trans (hb.mono HB.out.size))
      clear hb
      have HO := hide (OwnPg.at OL.out)
      clear OL
      obtain ⟨a3, k3, a4, k4, hvo, _, _⟩ := id HO.out
      subst hvo
      go_upto_region 21 with fail
      have hb := below_alloc w10 (.cells #[.int .i64 p.ins, .int .i64 p.regs, .slice a3 p.code.length k3, .slice a4 p.outs.length k4] 25)
      have GX := hide (Box4.new w10 25 (.int .i64 p.ins) (.int .i64 p.regs) (.slice a3 p.code.length k3) (.slice a4 p.outs.length k4))
      replace HO := hide (HO.out.below hb)
      replace HP := hide (HP.out.below hb)
      replace PX := hide (PX.out.step hb)
      replace HB := hide (HB.out.trans (hb.mono HB.out.size))
      clear hb
      generalize w10.alloc (.cells #[.int .i64 p.ins, .int .i64 p.regs, .slice a3 p.code.length k3, .slice a4 p.outs.length k4] 25) = w11 at *
      generalize w10.heap.size = G at *
      have c0 := PX.out.cell0
      have c1 := PX.out.cell1
      have c2 := PX.out.cell2
      have c3 := PX.out.cell3
      go_wp2_with fail
      refine (copy2_any _ p _ HP.out L1.out).mono ?_
      rintro e w12 ⟨⟨vc, rfl, ho⟩, hb⟩
      have HW := hide hb
      obtain ⟨vc1, vo1, rfl, h1, h2⟩ := ho
      obtain ⟨a5, k5, rfl⟩ := own_slice h1
      obtain ⟨a6, k6, rfl⟩ := own_slice h2
      have OC := hide h1
      have OO := hide h2
      clear hb h1 h2 c0 c1 c2 c3
      go_upto_region 22 with fail
      have hb := below_alloc w12 (.cells #[.int .i64 p.ins, .int .i64 p.regs, .slice a5 p.code.length k5, .slice a6 p.outs.length k6] 25)
      have DX := hide (Box4.new w12 25 (.int .i64 p.ins) (.int .i64 p.regs) (.slice a5 p.code.length k5) (.slice a6 p.outs.length k6))
      replace OC := hide (own_below OC.out hb)
      replace OO := hide (own_below OO.out hb)
      replace HW := hide (HW.out.trans (hb.mono HW.out.size))
      clear hb
      generalize w12.alloc (.cells #[.int .i64 p.ins, .int .i64 p.regs, .slice a5 p.code.length k5, .slice a6 p.outs.length k6] 25) = w13 at *
      generalize w12.heap.size = D at *
      have PX' := hide (PX.out.step HW.out)
      have c0 := PX'.out.cell0
      have c1 := PX'.out.cell1
      have c2 := PX'.out.cell2
      have c3 := PX'.out.cell3
      have d0 := DX.out.cell0
      have d1 := DX.out.cell1
      have d2 := DX.out.cell2
      have d3 := DX.out.cell3
      go_wp2_with fail
      refine (rsame_any _ _ p p _ (OwnPg.at ⟨_, _, rfl, OC.out, OO.out⟩) (HP.out.below HW.out)).mono ?_
      rintro e w14 ⟨rfl, hb⟩
      rw [eqB_yes rfl]
      clear c0 c1 c2 c3 d0 d1 d2 d3 PX'
      replace OC := hide (own_below OC.out hb)
      replace OO := hide (own_below OO.out hb)
      replace DX := hide (DX.out.step hb)
      replace HW := hide (HW.out.trans (hb.mono HW.out.size))
      clear hb
      have d0 := DX.out.cell0
      have d1 := DX.out.cell1
      have d2 := DX.out.cell2
      have d3 := DX.out.cell3
      go_upto_region 24 with fail
      go_quiet (fail)
      have RS : Hid (RowW (w14.drewN nq) w11.heap.size 36 5 (.slice a5 k5 k5) k5 ∧ RowW (w14.drewN nq) w11.heap.size 3 1 (.slice a6 k6 k6) k6) := hide ⟨(own_cap OC.out).alloc (below_drewN (Below.refl _ _) _), (own_cap OO.out).alloc (below_drewN (Below.refl _ _) _)⟩
      replace HW := hide (below_drewN HW.out nq)
      clear d0 d1 d2 d3 DX OC OO
      generalize w14.drewN nq = w15 at *
      have M5 := hide (row_max RS.out.1)
      have M6 := hide (row_max RS.out.2)
      go_upto_region 26 with fail
      have m5 := M5.out
      go_loopw [14] (fun kv wr => ∃ k : Nat, k ≤ k5 ∧ kv = .int .i64 k ∧ Below w11.heap.size w11 wr ∧ RowW wr w11.heap.size 36 5 (.slice a5 k5 k5) k5 ∧ RowW wr w11.heap.size 3 1 (.slice a6 k6 k6) k6) (fun kv _ => k5 - (intOf kv).toNat)
      case atStart => exact ⟨0, Nat.zero_le _, rfl, HW.out, RS.out⟩
      case round =>
        clear HW RS
        obtain ⟨k, hk, rfl, hwr, hrs⟩ := hrel
        have HW := hide hwr
        have RS := hide hrs
        clear hwr hrs
        by_cases hlt : k < k5
        · obtain ⟨g, rfl⟩ := row_some RS.out.1 (by omega)
          obtain ⟨⟨z0, e0⟩, f0⟩ := row_cell RS.out.1 (j := k * 5) (by omega)
          obtain ⟨⟨z1, e1⟩, f1⟩ := row_cell RS.out.1 (j := k * 5 + 1) (by omega)
          obtain ⟨⟨z2, e2⟩, f2⟩ := row_cell RS.out.1 (j := k * 5 + 2) (by omega)
          obtain ⟨⟨z3, e3⟩, f3⟩ := row_cell RS.out.1 (j := k * 5 + 3) (by omega)
          obtain ⟨⟨z4, e4⟩, f4⟩ := row_cell RS.out.1 (j := k * 5 + 4) (by omega)
          have GE := hide (row_block RS.out.1).1
          go_wp2
          go_roundw
          case rel =>
            refine ⟨k + 1, by omega, by go_num, ?_, ?_⟩
            · exact ((((HW.out.setCell (p := ⟨g, _, none⟩) GE.out _).setCell (p := ⟨g, _, none⟩) GE.out _).setCell (p := ⟨g, _, none⟩) GE.out _).setCell (p := ⟨g, _, none⟩) GE.out _).setCell (p := ⟨g, _, none⟩) GE.out _
            · exact rows_set (rows_set (rows_set (rows_set (rows_set RS.out (by decide) _ _) (by decide) _ _) (by decide) _ _) (by decide) _ _) (by decide) _ _
          case measure => simp [intOf]; omega
        · have e : k = k5 := by omega
          subst e
          go_upto_region 30 with fail
          clear m5
          have m6 := M6.out
          go_loopw [15] (fun kv wr => ∃ k : Nat, k ≤ k6 ∧ kv = .int .i64 k ∧ Below w11.heap.size w11 wr ∧ RowW wr w11.heap.size 3 1 (.slice a6 k6 k6) k6) (fun kv _ => k6 - (intOf kv).toNat)
          case atStart => exact ⟨0, Nat.zero_le _, rfl, HW.out, RS.out.2⟩
          case round =>
            clear HW RS
            obtain ⟨k, hk, rfl, hwr, hrs⟩ := hrel
            have HW := hide hwr
            have RS := hide hrs
            clear hwr hrs
            by_cases hlt : k < k6
            · obtain ⟨g, rfl⟩ := row_some RS.out (by omega)
              obtain ⟨⟨z0, e0⟩, f0⟩ := row_cell RS.out (j := k) (by omega)
              have GE := hide (row_block RS.out).1
              go_wp2
              go_roundw
              case rel => exact ⟨k + 1, by omega, by go_num, HW.out.setCell (p := ⟨g, _, none⟩) GE.out _, row_set RS.out _ _⟩
              case measure => simp [intOf]; omega
            · have e : k = k6 := by omega
              subst e
              have PX' := hide (PX.out.step HW.out)
              have GX' := hide (GX.out.step HW.out)
              have c0 := PX'.out.cell0
              have c1 := PX'.out.cell1
              have c2 := PX'.out.cell2
              have c3 := PX'.out.cell3
              have g0 := GX'.out.cell0
              have g1 := GX'.out.cell1
              have g2 := GX'.out.cell2
              have g3 := GX'.out.cell3
              go_wp2_with fail
              refine (rsame_any _ _ p p _ (HP.out.below HW.out) (HO.out.below HW.out)).mono ?_
              rintro e w16 ⟨rfl, hb⟩
              rw [eqB_yes rfl]
              replace HW := hide (HW.out.trans (hb.mono HW.out.size))
              clear hb c0 c1 c2 c3 g0 g1 g2 g3
              go_wp2
              go_ret
              exact ⟨rfl, HB.out.trans (HW.out.mono HB.out.size)⟩
end Go.Proofs.YtlbjkfnknkpkiaaDoor
