/- swagelaw08.ProgChecks answers true at all programs, and turns nothing that was there. -/
import Derived.Test.YtlbjkfnknkpkiaaDoorPgRChk
import Derived.Test.YtlbjkfnknkpkiaaDoorPgLive
namespace Go.Proofs.YtlbjkfnknkpkiaaDoor
open Go.RowKit

theorem k_right {p : Pg} (hr : rightB p = true) : chkK p = 0 := by
  unfold rightB at hr
  simp only [Bool.and_eq_true, decide_eq_true_eq] at hr
  unfold chkK
  rw [if_pos hr.1, hr.2, if_neg (by omega)]
theorem ck_right {p : Pg} (hr : rightB p = true) : ckV p = .returned (.tuple #[.int .i64 0, .int .i64 0]) := by
  unfold ckV; rw [hr, k_right hr]; rfl
theorem ck_wrong {p : Pg} (hr : rightB p = false) : ckV p = .returned (.tuple #[.int .i64 (chkK p), .int .i64 80]) := by
  unfold ckV; rw [hr]; rfl
theorem rk_right {p : Pg} (hr : rightB p = true) : rkV p = .returned (.tuple #[.int .i64 0, .bool false]) := by
  unfold rkV; rw [hr, k_right hr]; rfl
theorem rk_wrong {p : Pg} (hr : rightB p = false) : rkV p = .returned (.tuple #[.int .i64 (chkK p), .bool true]) := by
  unfold rkV; rw [hr]; rfl

set_option maxRecDepth 100000 in
set_option maxHeartbeats 4000000 in
theorem pchecks_walk (v : Value) (p : Pg) (w : World) (h : PgAt w v p) :
    Calls Tryd.prog 3 #[v] w fun e w' => e = .returned (.bool true) ∧ Below w.heap.size w w' := by
  have HP := hide h
  obtain ⟨ca, cc, oa, oc, rfl, _, _⟩ := h
  go_enter Tryd.func3, Tryd.ntmps3
  go_upto_region 1 with fail
  have hb := below_alloc w (.cells #[.int .i64 p.ins, .int .i64 p.regs, .slice ca p.code.length cc, .slice oa p.outs.length oc] 25)
  have PX := hide (Box4.new w 25 (.int .i64 p.ins) (.int .i64 p.regs) (.slice ca p.code.length cc) (.slice oa p.outs.length oc))
  replace HP := hide (HP.out.below hb)
  have HB := hide hb
  clear hb
  generalize w.alloc (.cells #[.int .i64 p.ins, .int .i64 p.regs, .slice ca p.code.length cc, .slice oa p.outs.length oc] 25) = w1 at *
  obtain ⟨B, hB⟩ : ∃ B, B = w.heap.size := ⟨_, rfl⟩
  rw [← hB] at PX ⊢
  clear hB
  go_wp2_with fail
  refine (live_any _).mono ?_
  rintro e w2 ⟨rfl, hb⟩
  replace HP := hide (HP.out.below hb)
  replace PX := hide (PX.out.step hb)
  replace HB := hide (HB.out.trans (hb.mono HB.out.size))
  clear hb
  have c0 := PX.out.cell0
  have c1 := PX.out.cell1
  have c2 := PX.out.cell2
  have c3 := PX.out.cell3
  by_cases q1 : (20000 : Int) < (p.code.length : Int)
  · go_wp2
    go_ret
    exact ⟨rfl, HB.out⟩
  by_cases q2 : (20000 : Int) < (p.outs.length : Int)
  · go_wp2
    go_ret
    exact ⟨rfl, HB.out⟩
  cases hr : rightB p with
  | true =>
    have HR := hide hr
    clear hr
    go_wp2_with fail
    refine (check_any _ p _ HP.out).mono ?_
    rintro e w3 ⟨rfl, hb⟩
    replace HP := hide (HP.out.below hb)
    replace PX := hide (PX.out.step hb)
    replace HB := hide (HB.out.trans (hb.mono HB.out.size))
    clear hb c0 c1 c2 c3
    have c0 := PX.out.cell0
    have c1 := PX.out.cell1
    have c2 := PX.out.cell2
    have c3 := PX.out.cell3
    rw [ck_right HR.out]
    go_wp2_with fail
    refine (rcheck_any _ p _ HP.out).mono ?_
    rintro e w4 ⟨rfl, hb⟩
    replace HB := hide (HB.out.trans (hb.mono HB.out.size))
    clear hb c0 c1 c2 c3 PX HP
    rw [rk_right HR.out]
    go_wp2
    go_ret
    exact ⟨rfl, HB.out⟩
  | false =>
    have HR := hide hr
    clear hr
    go_wp2_with fail
    refine (check_any _ p _ HP.out).mono ?_
    rintro e w3 ⟨rfl, hb⟩
    replace HP := hide (HP.out.below hb)
    replace PX := hide (PX.out.step hb)
    replace HB := hide (HB.out.trans (hb.mono HB.out.size))
    clear hb c0 c1 c2 c3
    have c0 := PX.out.cell0
    have c1 := PX.out.cell1
    have c2 := PX.out.cell2
    have c3 := PX.out.cell3
    rw [ck_wrong HR.out]
    go_wp2_with fail
    refine (rcheck_any _ p _ HP.out).mono ?_
    rintro e w4 ⟨rfl, hb⟩
    replace HB := hide (HB.out.trans (hb.mono HB.out.size))
    clear hb c0 c1 c2 c3 PX HP
    rw [rk_wrong HR.out]
    generalize chkK p = kk
    go_wp2_with fail
    refine (live_any _).mono ?_
    rintro e w5 ⟨rfl, hb⟩
    replace HB := hide (HB.out.trans (hb.mono HB.out.size))
    clear hb
    go_wp2
    go_ret
    exact ⟨by simp, HB.out⟩
end Go.Proofs.YtlbjkfnknkpkiaaDoor
