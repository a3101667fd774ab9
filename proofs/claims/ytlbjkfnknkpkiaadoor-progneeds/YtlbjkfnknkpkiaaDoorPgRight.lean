/- The document's Right; whether a program is the one without anything. -/
import Derived.Test.YtlbjkfnknkpkiaaDoorPgChecksWalk
import Derived.Test.YtlbjkfnknkpkiaaDoorPgRSame
import Derived.Test.YtlbjkfnknkpkiaaDoorPgJoin
import Derived.Test.YtlbjkfnknkpkiaaDoorPgDep2
namespace Go.Proofs.YtlbjkfnknkpkiaaDoor
open Go.RowKit

theorem PgAt.drew {w : World} {v : Value} {p : Pg} (h : PgAt w v p) : PgAt w.drew v p := h.below (Below.refl w.heap.size w).drew
set_option maxRecDepth 100000 in
set_option maxHeartbeats 4000000 in
theorem rright_any (v : Value) (p : Pg) (w : World) (h : PgAt w v p) :
    Calls Tryd.prog 21 #[v] w fun e w' => e = .returned (.bool (rightB p)) ∧ Below w.heap.size w w' := by
  have HP := hide h
  obtain ⟨ca, cc, oa, oc, rfl, _, _⟩ := h
  go_enter Tryd.func21, Tryd.ntmps21
  go_upto_region 1 with fail
  have hb := below_alloc w (.cells #[.int .i64 p.ins, .int .i64 p.regs, .slice ca p.code.length cc, .slice oa p.outs.length oc] 25)
  have PX := hide (Box4.new w 25 (.int .i64 p.ins) (.int .i64 p.regs) (.slice ca p.code.length cc) (.slice oa p.outs.length oc))
  replace HP := hide (HP.out.below hb)
  have HB := hide hb
  clear hb
  generalize w.alloc (.cells #[.int .i64 p.ins, .int .i64 p.regs, .slice ca p.code.length cc, .slice oa p.outs.length oc] 25) = w1 at *
  obtain ⟨B, hB⟩ : ∃ B, B = w.heap.size := ⟨_, rfl⟩
  rw [← hB] at PX ⊢
  clear hB
  have c0 := PX.out.cell0
  have c1 := PX.out.cell1
  have c2 := PX.out.cell2
  have c3 := PX.out.cell3
  go_wp2_with fail
  refine (rcheck_any _ p _ HP.out).mono ?_
  rintro e w2 ⟨rfl, hb⟩
  replace HB := hide (HB.out.trans (hb.mono HB.out.size))
  clear hb c0 c1 c2 c3
  unfold rkV
  generalize chkK p = kk
  go_wp2
  go_ret
  exact ⟨by simp, HB.out⟩
set_option maxRecDepth 100000 in
set_option maxHeartbeats 4000000 in
theorem empty_no (v : Value) (w : World) (h : PgAt w v noPg) :
    Calls Tryd.prog 26 #[v] w fun e w' => e = .returned (.bool true) ∧ Below w.heap.size w w' := by
  obtain ⟨ca, cc, oa, oc, rfl, _, _⟩ := h
  unfold noPg
  dsimp only [List.length_nil]
  go_enter Tryd.func26, Tryd.ntmps26
  go_wp2
  go_ret
  exact ⟨by simp, below_alloc _ _⟩
theorem empty_no2 (v : Value) (J : Pg) (w : World) (e : J = noPg) (h : PgAt w v J) :
    Calls Tryd.prog 26 #[v] w fun e w' => e = .returned (.bool true) ∧ Below w.heap.size w w' := by
  subst e
  exact empty_no v w h
theorem drun_bound (l : List Ins) : ∀ (d : Int → Int) (b : Int), 0 ≤ b → (∀ r, d r ≤ b) → ∀ r, drun d l r ≤ b + l.length := by
  induction l with
  | nil => intro d b _ h r; simpa [drun] using h r
  | cons i l ih =>
    intro d b hb h r
    have := ih (dstep d i) (b + 1) (by omega) (fun r => by
      unfold dstep
      split
      · have := dmax_le hb (l := asksL i) (fun r _ => h r); omega
      · have := h r; omega) r
    show drun (dstep d i) l r ≤ _
    rw [List.length_cons]
    omega
theorem dep_bound {p : Pg} (h : rightB p = true) : 0 ≤ dep p ∧ dep p ≤ 16384 := by
  refine ⟨dmax_nonneg, dmax_le (by decide) (fun r _ => ?_)⟩
  have := drun_bound p.code (fun _ => 0) 0 (Int.le_refl _) (fun _ => Int.le_refl _) r
  have h4 := (right_parts h).2.2.2.1
  omega
end Go.Proofs.YtlbjkfnknkpkiaaDoor
