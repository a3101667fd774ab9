/- RatioBack answers true for every fraction's texts, every number and every text: lowest terms, however made; read of its text it is itself; what is read has that text; nothing that was handed in is changed. No conditions. -/
import Derived.Test.YtjceiakgedkmcaaRows
import Derived.WalkKit
import Derived.ProofKit
import Derived.OpenShut
import Derived.ShutString
import Derived.ChangeOld
import Derived.Below
import Derived.DataShut
import Derived.Lib.SmallJoins
import Derived.Test.YtjceiakgedkmcaaRatioBackWalk
namespace Go.Proofs.Ytjceiakgedkmcaa
open Go.ChangeShapes Go.WideShapes Go.ChangeAt Go.RowKit Go.Joins
open Go.ChangeMaps (open_string shut_string)
set_option linter.unusedVariables false

theorem ratioBack_own : ownKnob Try.prog.godebug = none := by kernel_rfl
theorem ratioBack_laidOut : laidOutB Try.prog = true := by kernel_rfl
theorem ratioBack_cells : Try.prog.cellsOf 59 = 2 := by kernel_rfl

set_option maxRecDepth 100000 in
theorem ratioBack_lifted (os : Os) (started : os.Started) (H : Type) (enc : TypeId × Value → H) :
    ReturnsInHanded {} Try.checked os 5 .any (Rows.ratioBackSpec.pre6 enc Try.prog Try.f5 Rows.ratioBackRow.domain false) (Rows.ratioBackSpec.post enc Try.prog Try.f5 false true false false) := by
  refine returnsInHanded_of_change (C := Try.checked) ratioBack_own started (by kernel_rfl) Try.func5
    (ChangeSpec.witness6 (enc := enc) (C := Try.checked) false ⟨#[], #[.agg #[.string ByteArray.empty, .string ByteArray.empty], .int .i64 0, .string ByteArray.empty], []⟩ 8 (by kernel_rfl) (by kernel_rfl) (by kernel_rfl) (by kernel_rfl)) ?_
  intro W base args ds gs before hval0 hW hcnd _
  have hval : ∀ (j : Nat) t v, Try.f5.params[j]? = some t → args[j]? = some v → Value.okWide Try.prog W .any base t v := hval0
  have hW' := hW
  obtain ⟨p, q, hA0, hV, rfl, hfz, hnd⟩ := hW
  have hA : DataW.TrodAll enc Try.prog W 0 (fun _ => true) true Try.f5.params.toList args.toList ds p := hA0
  rw [Try.params5] at hA hval
  obtain ⟨v0, vs0, d0, ds0, p0, q0, hargs, rfl, rfl, h0, r0⟩ := trodAll_cons hA
  obtain ⟨v1, vs1, d1, ds1, p1, q1, rfl, rfl, rfl, h1, r1⟩ := trodAll_cons r0
  obtain ⟨v2, vs2, d2, ds2, p2, q2, rfl, rfl, rfl, h2, r2⟩ := trodAll_cons r1
  obtain ⟨rfl, rfl, rfl⟩ := trodAll_nil r2
  obtain rfl : args = #[v0, v1, v2] := by cases args; simp_all
  obtain ⟨rfl, rfl⟩ := trodVars_none hV
  have k0 := h0
  have lt0 : ∀ x ∈ p0, x.block < W.heap.size := by obtain ⟨m, hm⟩ := k0; exact DataW.trod_lt m _ _ _ hm
  obtain ⟨s0, t0, rfl, ls0, lt0s⟩ : ∃ a b, v0 = .agg #[.string a, .string b] ∧ a.size ≤ maxLen ∧ b.size ≤ maxLen := by
    obtain ⟨u0, u1, y0, y1, m, rfl, _, _, hy0, hy1⟩ := open_agg2 Try.underlying59 (by kernel_rfl) ratioBack_cells (hval 0 59 v0 rfl rfl) h0
    obtain ⟨a, e0, _, ha⟩ := DataW.trod_string Try.underlying9 hy0
    obtain ⟨b, e1, _, hb⟩ := DataW.trod_string Try.underlying9 hy1
    simp only [List.cons.injEq, and_true] at e0 e1
    subst e0
    subst e1
    exact ⟨a, b, rfl, ha, hb⟩
  obtain ⟨z1, rfl, rfl, rfl, w1⟩ := open_int Try.underlying2 (hval 1 2 v1 rfl rfl) h1
  obtain ⟨s2, rfl, rfl, rfl, l2⟩ := open_string Try.underlying9 (hval 2 9 v2 rfl rfl) h2
  clear hA0 hval0
  refine (rback_walk s0 t0 s2 z1 _ (by have := ls0; unfold maxLen at this; omega) (by have := lt0s; unfold maxLen at this; omega) (by have := l2; unfold maxLen at this; omega) ((Go.Lit.wf_int_iff .i64 _).1 w1).1 ((Go.Lit.wf_int_iff .i64 _).1 w1).2).mono fun e W' ⟨he, bel⟩ => ?_
  subst he
  exact ⟨_, rfl, _, _, _, [], _, [], hW', trodAll_mk1 (shut_bool Try.underlying4 _), (trodAll_cons_mk (Below.trod ratioBack_laidOut (by kernel_rfl) (of_decide_eq_true (by kernel_rfl)) k0 bel lt0) (trodAll_cons_mk (shut_int Try.underlying2 w1) (trodAll_cons_mk (shut_string Try.underlying9 l2) trodAll_mk0))), rfl, bel.frame _, fun h => by cases h⟩

theorem ratioBack_over : Rows.ratioBackRow.holds Try.pinned (OpenSpec.ofChange Rows.ratioBackSpec) :=
  OpenClaim.holds_of_wide 5 Try.f5 rfl rfl rfl rfl rfl rfl rfl ⟨rfl, rfl, rfl, rfl, rfl⟩ rfl rfl rfl rfl rfl (by kernel_rfl) Try.func5 (by kernel_rfl)
    (of_decide_eq_true (by kernel_rfl)) (by unfold Func.isWrapper; first | (rw [if_pos (by decide +kernel)]; kernel_rfl) | (rw [if_neg (by decide +kernel)]; exact ⟨rfl, rfl⟩))
    (fun os started H enc _ => ratioBack_lifted os started H enc)

theorem ratioBack_holds : Rows.RatioBackSaid := ratioBack_over
#print axioms ratioBack_holds
end Go.Proofs.Ytjceiakgedkmcaa
