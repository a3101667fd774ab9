/- The document's Right; whether a program is the one without anything. -/
import Derived.Test.YtheakienigmkhaaPgChecksWalk
import Derived.Test.YtheakienigmkhaaPgRSame
import Derived.Test.YtheakienigmkhaaPgJoin1
namespace Go.Proofs.Ytheakienigmkhaa
open Go.RowKit

theorem PgAt.drew {w : World} {v : Value} {p : Pg} (h : PgAt w v p) : PgAt w.drew v p := h.below (Below.refl w.heap.size w).drew
set_option maxRecDepth 100000 in
set_option maxHeartbeats 4000000 in
theorem rright_any (v : Value) (p : Pg) (w : World) (h : PgAt w v p) :
    Calls Try.prog 9 #[v] w fun e w' => e = .returned (.bool (rightB p)) ∧ Below w.heap.size w w' := by
  have HP := hide h
  obtain ⟨ca, cc, oa, oc, rfl, _, _⟩ := h
  go_enter Try.func9, Try.ntmps9
  go_upto_region 1 with fail
  have hb := below_alloc w (.cells #[.int .i64 p.ins, .int .i64 p.regs, .slice ca p.code.length cc, .slice oa p.outs.length oc] 25)
  have PX := hide (Box4.new w 25 (.int .i64 p.ins) (.int .i64 p.regs) (.slice ca p.code.length cc) (.slice oa p.outs.length oc))
  replace HP := hide (HP.out.below hb)
  have HB := hide hb
  clear hb
  generalize w.alloc (.cells #[.int .i64 p.ins, .int .i64 p.regs, .slice ca p.code.length cc, .slice oa p.outs.length oc] 25) = w1 at *
  obtain ⟨B, hB⟩ : ∃ B, B = w.heap.size := ⟨_, rfl⟩
  rw [← hB] at PX ⊢
  clear hB
  have c0 := PX.out.cell0
  have c1 := PX.out.cell1
  have c2 := PX.out.cell2
  have c3 := PX.out.cell3
  go_wp2_with fail
  refine (rcheck_any _ p _ HP.out).mono ?_
  rintro e w2 ⟨rfl, hb⟩
  replace HB := hide (HB.out.trans (hb.mono HB.out.size))
  clear hb c0 c1 c2 c3
  unfold rkV
  generalize chkK p = kk
  go_wp2
  go_ret
  exact ⟨by simp, HB.out⟩
end Go.Proofs.Ytheakienigmkhaa
