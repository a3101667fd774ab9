/- Whether a program may be, or the first instruction that may not (the program's Check and the document's). -/
import Derived.Test.YtheakienigmkhaaPgIn
namespace Go.Proofs.Ytheakienigmkhaa
open Go.RowKit

theorem ints3 (w : World) (e : TypeId) (x y z : Int) {n : Nat} (hn : n = w.heap.size) : IntsAt (w.alloc (.cells #[.int .i64 x, .int .i64 y, .int .i64 z] e)) (.slice (some ⟨n, 0, none⟩) 3 3) [x, y, z] := by
  subst hn
  refine ⟨_, 3, rfl, Nat.le_refl _, by simp [maxLen], fun _ => ⟨_, _, rfl, fun i hi => ?_⟩⟩
  have hh := heap_alloc_new w (.cells #[.int .i64 x, .int .i64 y, .int .i64 z] e)
  generalize w.alloc (.cells #[.int .i64 x, .int .i64 y, .int .i64 z] e) = W at hh ⊢
  generalize w.heap.size = B at hh ⊢
  match i, hi with
  | 0, _ => simp [World.cell?, hh, ot]
  | 1, _ => simp [World.cell?, hh, ot]
  | 2, _ => simp [World.cell?, hh, ot]

set_option maxRecDepth 100000 in
set_option maxHeartbeats 1000000 in
theorem mayBe_any (i : Ins) (regs : Int) (w : World) :
    Calls Try.prog 47 #[.agg #[.int .i64 i.op, .int .i64 i.to, .int .i64 i.a, .int .i64 i.b, .int .i64 i.c], .int .i64 regs] w fun e w' => e = .returned (.bool (mayB i regs)) ∧ Below w.heap.size w w' := by
  obtain ⟨op, to, a, b, c⟩ := i
  unfold mayB
  dsimp only
  go_enter Try.func47, Try.ntmps47
  go_wp2_with fail
  refine (constant_any op c _).mono ?_
  rintro e w1 ⟨rfl, rfl⟩
  cases h1 : constB op c with
  | false =>
    go_wp2
    go_ret
    exact ⟨by simp [h1], below_alloc _ _⟩
  | true =>
    go_wp2_with fail
    refine (registers_any regs _ [to, a, b] _ (ints3 _ _ _ _ _ (by rw [World.size_alloc]))).mono ?_
    rintro e w1 ⟨rfl, rfl⟩
    have e3 : [to, a, b].all (regB regs) = (regB regs to && regB regs a && regB regs b) := by simp [Bool.and_assoc]
    rw [e3]
    clear e3
    cases h2 : (regB regs to && regB regs a && regB regs b) with
    | false =>
      go_wp2
      go_ret
      exact ⟨by simp [h1, h2], (below_alloc _ _).trans ((below_alloc _ _).mono (by rw [World.size_alloc]; omega))⟩
    | true =>
      by_cases hb : b = 0
      · subst hb
        go_wp2
        go_ret
        exact ⟨by simp, (below_alloc _ _).trans ((below_alloc _ _).mono (by rw [World.size_alloc]; omega))⟩
      · go_wp2_with fail
        refine (two_any op _).mono ?_
        rintro e w1 ⟨rfl, rfl⟩
        go_wp2
        go_ret
        exact ⟨by simp [h1, h2, hb], (below_alloc _ _).trans ((below_alloc _ _).mono (by rw [World.size_alloc]; omega))⟩

set_option maxRecDepth 100000 in
theorem counted_any (p : Pg) (ca oa : Option Addr) (cc oc : Nat) (w : World) :
    Calls Try.prog 45 #[.agg #[.int .i64 p.ins, .int .i64 p.regs, .slice ca p.code.length cc, .slice oa p.outs.length oc]] w fun e w' => e = .returned (.bool (numB p)) ∧ Below w.heap.size w w' := by
  obtain ⟨ins, regs, code, outs⟩ := p
  unfold numB
  dsimp only
  generalize code.length = lc
  generalize outs.length = lo
  by_cases h1 : 1 ≤ ins
  · by_cases h2 : ins ≤ regs
    · by_cases h3 : regs ≤ 128
      · by_cases h4 : lc ≤ 16384
        · have h4' : (lc : Int) ≤ 16384 := by omega
          by_cases h5 : 1 ≤ lo
          · have h5' : (1 : Int) ≤ lo := by omega
            by_cases h6 : lo ≤ 128
            · have h6' : (lo : Int) ≤ 128 := by omega
              go_enter Try.func45, Try.ntmps45
              go_wp2
              go_ret
              exact ⟨by simp [h1, h2, h3, h4, h5, h6], below_alloc _ _⟩
            · have h6' : ¬ (lo : Int) ≤ 128 := by omega
              go_enter Try.func45, Try.ntmps45
              go_wp2
              go_ret
              exact ⟨by simp <;> omega, below_alloc _ _⟩
          · have h5' : ¬ (1 : Int) ≤ lo := by omega
            go_enter Try.func45, Try.ntmps45
            go_wp2
            go_ret
            exact ⟨by simp <;> omega, below_alloc _ _⟩
        · have h4' : ¬ (lc : Int) ≤ 16384 := by omega
          go_enter Try.func45, Try.ntmps45
          go_wp2
          go_ret
          exact ⟨by simp <;> omega, below_alloc _ _⟩
      · go_enter Try.func45, Try.ntmps45
        go_wp2
        go_ret
        exact ⟨by simp <;> omega, below_alloc _ _⟩
    · go_enter Try.func45, Try.ntmps45
      go_wp2
      go_ret
      exact ⟨by simp <;> omega, below_alloc _ _⟩
  · go_enter Try.func45, Try.ntmps45
    go_wp2
    go_ret
    exact ⟨by simp <;> omega, below_alloc _ _⟩

end Go.Proofs.Ytheakienigmkhaa


namespace Go.Proofs.Ytheakienigmkhaa
open Go.RowKit

theorem bad_found {p : Pg} {k : Nat} (hk : k < p.code.length) (hb : mayB (cd p.code k) p.regs = false) (hm : ∀ m, m < k → mayB (cd p.code m) p.regs = true) : badAt p = k := by
  unfold badAt
  rw [List.findIdx_eq hk]
  refine ⟨by rw [← cd_lt hk, hb]; rfl, fun j hj => ?_⟩
  rw [← cd_lt (Nat.lt_trans hj hk), hm j hj]; rfl
theorem bad_none {p : Pg} (hm : ∀ m, m < p.code.length → mayB (cd p.code m) p.regs = true) : badAt p = p.code.length := by
  unfold badAt
  rw [List.findIdx_eq_length]
  intro x hx
  obtain ⟨j, hj, rfl⟩ := List.mem_iff_getElem.1 hx
  rw [← cd_lt hj, hm j hj]; rfl
/-- what Check answers -/
def ckV (p : Pg) : Ending := .returned (.tuple #[.int .i64 (chkK p), .int .i64 (if rightB p then 0 else 80)])
def rkV (p : Pg) : Ending := .returned (.tuple #[.int .i64 (chkK p), .bool (!rightB p)])
theorem right_no {p : Pg} (h : headB p = false) : rightB p = false ∧ chkK p = -1 := by
  unfold rightB chkK; rw [h]; exact ⟨rfl, rfl⟩
theorem right_bad {p : Pg} {k : Nat} (h : headB p = true) (hk : k < p.code.length) (hb : mayB (cd p.code k) p.regs = false) (hm : ∀ m, m < k → mayB (cd p.code m) p.regs = true) : rightB p = false ∧ chkK p = k := by
  have e := bad_found hk hb hm
  unfold rightB chkK; rw [h, e]
  refine ⟨by simp; omega, by rw [if_pos rfl, if_pos hk]⟩
theorem right_yes {p : Pg} (h : headB p = true) (hm : ∀ m, m < p.code.length → mayB (cd p.code m) p.regs = true) : rightB p = true ∧ chkK p = 0 := by
  have e := bad_none hm
  unfold rightB chkK; rw [h, e]
  refine ⟨by simp, by rw [if_pos rfl, if_neg (by omega)]⟩

set_option maxRecDepth 100000 in
set_option maxHeartbeats 4000000 in
theorem check_any (v : Value) (p : Pg) (w : World) (h : PgAt w v p) :
    Calls Try.prog 24 #[v] w fun e w' => e = ckV p ∧ Below w.heap.size w w' := by
  obtain ⟨ca, cc, oa, oc, rfl, hc, ho⟩ := h
  have HC := hide hc
  have HO := hide ho
  have HM : Hid (p.code.length ≤ 9223372036854775807) := hide (by
    obtain ⟨a, c, he, h1, h2, _⟩ := hc
    simp only [Value.slice.injEq] at he
    unfold maxLen at h2
    omega)
  clear hc ho
  go_enter Try.func24, Try.ntmps24
  go_upto_region 1 with fail
  have hb := below_alloc w (.cells #[.int .i64 p.ins, .int .i64 p.regs, .slice ca p.code.length cc, .slice oa p.outs.length oc] 25)
  have PX := hide (Box4.new w 25 (.int .i64 p.ins) (.int .i64 p.regs) (.slice ca p.code.length cc) (.slice oa p.outs.length oc))
  replace HC := hide (HC.out.below hb)
  replace HO := hide (HO.out.below hb)
  have HB := hide hb
  clear hb
  generalize w.alloc (.cells #[.int .i64 p.ins, .int .i64 p.regs, .slice ca p.code.length cc, .slice oa p.outs.length oc] 25) = w1 at *
  obtain ⟨B, hB⟩ : ∃ B, B = w.heap.size := ⟨_, rfl⟩
  have HZ := hide hB
  rw [← hB] at PX ⊢
  clear hB
  have c0 := PX.out.cell0
  have c1 := PX.out.cell1
  have c2 := PX.out.cell2
  have c3 := PX.out.cell3
  go_wp2_with fail
  refine (counted_any p ca oa cc oc _).mono ?_
  rintro e w2 ⟨rfl, hb⟩
  replace HC := hide (HC.out.below hb)
  replace HO := hide (HO.out.below hb)
  replace PX := hide (PX.out.step hb)
  replace HB := hide (HB.out.trans (hb.mono HB.out.size))
  clear hb c0 c1 c2 c3
  have c1 := PX.out.cell1
  have c2 := PX.out.cell2
  have c3 := PX.out.cell3
  cases hn : numB p with
  | false =>
    have HN := hide hn
    clear hn
    go_wp2
    go_ret2
    obtain ⟨r1, r2⟩ := right_no (p := p) (by unfold headB; rw [HN.out]; rfl)
    unfold ckV
    rw [r1, r2]
    exact ⟨rfl, HB.out⟩
  | true =>
    have HN := hide hn
    clear hn
    go_wp2_with fail
    refine (registers_any p.regs _ p.outs _ HO.out).mono ?_
    rintro e w3 ⟨rfl, rfl⟩
    cases hn : p.outs.all (regB p.regs) with
    | false =>
      have HN2 := hide hn
      clear hn
      go_wp2
      go_ret2
      obtain ⟨r1, r2⟩ := right_no (p := p) (by unfold headB; rw [HN.out, HN2.out]; rfl)
      unfold ckV
      rw [r1, r2]
      exact ⟨rfl, HB.out⟩
    | true =>
      have HH : Hid (headB p = true) := hide (by unfold headB; rw [HN.out, hn]; rfl)
      clear hn HN
      have hm := HM.out
      go_wp2
      go_loopw [20, 4, 5] (fun iv _ _ wr => ∃ i : Nat, i ≤ p.code.length ∧ iv = .int .i64 i ∧ Below w3.heap.size w3 wr ∧ ∀ j, j < i → mayB (cd p.code j) p.regs = true) (fun iv _ _ _ => p.code.length - (intOf iv).toNat)
      case atStart => exact ⟨0, Nat.zero_le _, rfl, Below.refl _ _, fun j h => absurd h (Nat.not_lt_zero _)⟩
      case round =>
        obtain ⟨i, hi, rfl, hwr, hf⟩ := hrel
        have HF := hide hf
        have HW := hide hwr
        clear hf hwr
        by_cases hlt : i < p.code.length
        · obtain ⟨b, off, rfl, k1⟩ := HC.out.at hlt
          replace k1 := k1.step HW.out
          obtain ⟨x, hx⟩ : ∃ x, x = cd p.code i := ⟨_, rfl⟩
          rw [← hx] at k1
          have HX := hide hx
          clear hx c1 c2 c3
          have k10 := k1.cell0
          have k11 := k1.cell1
          have k12 := k1.cell2
          have k13 := k1.cell3
          have k14 := k1.cell4
          clear k1
          replace PX := hide (PX.out.step HW.out)
          have c1 := PX.out.cell1
          go_upto_region 6 with fail
          clear k10 k11 k12 k13 k14 c1
          have hb := below_alloc wr (.cells x.vals 40)
          have IX := hide (Box5.new wr 40 x)
          replace PX := hide (PX.out.step hb)
          replace HW := hide (HW.out.trans (hb.mono HW.out.size))
          clear hb
          unfold Ins.vals at IX PX HW
          generalize wr.alloc (.cells #[.int .i64 x.op, .int .i64 x.to, .int .i64 x.a, .int .i64 x.b, .int .i64 x.c] 40) = w4 at *
          generalize wr.heap.size = gi at *
          have c1 := PX.out.cell1
          have k10 := IX.out.cells.cell0
          have k11 := IX.out.cells.cell1
          have k12 := IX.out.cells.cell2
          have k13 := IX.out.cells.cell3
          have k14 := IX.out.cells.cell4
          simp only [Nat.zero_add] at k11 k12 k13 k14
          go_wp2_with fail
          refine (mayBe_any x p.regs _).mono ?_
          rintro e w5 ⟨rfl, hb⟩
          replace HW := hide (HW.out.trans (hb.mono HW.out.size))
          clear hb c1 k10 k11 k12 k13 k14 IX PX
          cases hmay : mayB x p.regs with
          | false =>
            have HY := hide hmay
            clear hmay
            go_wp2
            go_ret2
            obtain ⟨r1, r2⟩ := right_bad HH.out hlt (by rw [← HX.out]; exact HY.out) HF.out
            unfold ckV
            rw [r1, r2]
            exact ⟨rfl, HB.out.trans (HW.out.mono HB.out.size)⟩
          | true =>
            have HY := hide hmay
            clear hmay
            go_wp2
            go_roundw
            case rel => exact ⟨i + 1, by omega, by go_num, HW.out, fun j hj => by
              rcases Nat.lt_or_ge j i with h | h
              · exact HF.out j h
              · have e : j = i := by omega
                subst e
                rw [← HX.out]; exact HY.out⟩
            case measure => simp [intOf]; omega
        · have e : i = p.code.length := by omega
          subst e
          go_wp2
          go_ret2
          obtain ⟨r1, r2⟩ := right_yes HH.out HF.out
          unfold ckV
          rw [r1, r2]
          exact ⟨rfl, HB.out.trans (HW.out.mono HB.out.size)⟩
end Go.Proofs.Ytheakienigmkhaa
