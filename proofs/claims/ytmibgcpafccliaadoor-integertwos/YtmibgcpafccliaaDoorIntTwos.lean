/- Whole numbers times and by powers of two, how often two divides them: as the document says, whatever the number and the count. -/
import Derived.Test.YtmibgcpafccliaaDoorCards
import Derived.Test.YtmibgcpafccliaaDoorTie
import Derived.WalkKit
import Derived.ProofKit
import Derived.OpenShut
import Derived.ShutString
import Derived.ChangeOld
import Derived.Below
import Derived.Deep.DeepHandedRow
import Derived.Lib.LaidTab
import Derived.Lib.SmallJoins
import Derived.Test.YtmibgcpafccliaaDoorITwosWalk
import Derived.Test.YtmibgcpafccliaaDoorRow
namespace Go.Proofs.YtmibgcpafccliaaDoor
open Go.ChangeShapes Go.WideShapes Go.ChangeAt Go.RowKit Go.Joins
open Go.ChangeMaps (open_string shut_string)
set_option linter.unusedVariables false

theorem integerTwos_own : ownKnob Tryd.prog.godebug = none := by kernel_rfl
theorem integerTwos_laidOut : laidOutB Tryd.prog = true := by kernel_rfl
theorem integerTwos_gTab : Tryd.prog.globalNamed "math/bits.deBruijn32tab" = some 0 := by kernel_rfl
theorem integerTwos_gType : (Tryd.prog.globals[0]?).map (·.type) = some 96 := by kernel_rfl
theorem integerTwos_cellsT : Tryd.prog.cellsOf 96 = 32 := by kernel_rfl
theorem integerTwos_cellsE : Tryd.prog.cellsOf 5 = 1 := by kernel_rfl
theorem integerTwos_cellsN : Tryd.prog.cellsOf 41 = 2 := by kernel_rfl
/-- what the list of the row gives: the table of math/bits -/
theorem integerTwos_table {W : World} (h : laidMetH Tryd.prog Rows.integerTwosRow.laid W) : Lib.TabIs Tryd.prog W "math/bits.deBruijn32tab" .u8 [0, 1, 28, 2, 29, 14, 24, 3, 30, 22, 20, 15, 25, 17, 4, 8, 31, 27, 13, 23, 21, 19, 16, 7, 26, 12, 18, 6, 11, 5, 10, 9] :=
  Lib.tabIs_of_head (rest := []) integerTwos_gTab integerTwos_gType Tryd.underlying96 Tryd.underlying5 integerTwos_cellsE integerTwos_cellsT h
theorem integerTwos_nums : ∀ j, j < 32 → ([0, 1, 28, 2, 29, 14, 24, 3, 30, 22, 20, 15, 25, 17, 4, 8, 31, 27, 13, 23, 21, 19, 16, 7, 26, 12, 18, 6, 11, 5, 10, 9] : List Int).getD j 0 = ((Lib.deBruijn32tab.getD j 0 : Nat) : Int) := by decide
theorem integerTwos_tab {W : World} (h : laidMetH Tryd.prog Rows.integerTwosRow.laid W) : TabW W := fun j hj => by
  have := (integerTwos_table h).cell integerTwos_gTab j hj
  rw [integerTwos_nums j hj] at this
  exact this

set_option maxRecDepth 100000 in
theorem integerTwos_contract (H : Type) (enc : TypeId × Value → H) (W : World) (base : Nat) (args : Array Value) (ds gs : List (DataW H)) (before : List MemPlace)
    (hval0 : ∀ (j : Nat) t v, Tryd.f5.params[j]? = some t → args[j]? = some v → Value.okWide Tryd.prog W .any base t v)
    (hW : DataW.Whole enc Tryd.prog Tryd.f5.params.toList Rows.integerTwosSpec.vars false W args.toList ds gs before) (hL : laidMetH Tryd.prog Rows.integerTwosRow.laid W) :
    Calls Tryd.prog 5 args W fun e W' => ∃ v, e = .returned v ∧ Rows.integerTwosSpec.post enc Tryd.prog Tryd.f5 false true false false W args v W' := by
  have hT := integerTwos_tab hL
  have hval := hval0
  have hW' := hW
  obtain ⟨p, q, hA0, hV, rfl, hfz, hnd⟩ := hW
  have hA : DataW.TrodAll enc Tryd.prog W 0 (fun _ => true) true Tryd.f5.params.toList args.toList ds p := hA0
  rw [Tryd.params5] at hA hval
  obtain ⟨v0, vs0, d0, ds0, p0, q0, hargs, rfl, rfl, h0, r0⟩ := trodAll_cons hA
  obtain ⟨v1, vs1, d1, ds1, p1, q1, rfl, rfl, rfl, h1, r1⟩ := trodAll_cons r0
  obtain ⟨rfl, rfl, rfl⟩ := trodAll_nil r1
  obtain rfl : args = #[v0, v1] := by cases args; simp_all
  obtain ⟨rfl, rfl⟩ := trodVars_none hV
  have k0 := h0
  have lt0 : ∀ x ∈ p0, x.block < W.heap.size := by obtain ⟨m, hm⟩ := k0; exact DataW.trod_lt m _ _ _ hm
  obtain ⟨b0, a0, len0, c0, z0, rfl, w0⟩ : ∃ b a len cap zs, v0 = .agg #[.bool b, .slice a len cap] ∧ IsRow .u32 W a len cap zs := by
    obtain ⟨u0, u1, y0, y1, m, rfl, _, _, hy0, hy1⟩ := open_agg2 Tryd.underlying41 (by kernel_rfl) integerTwos_cellsN (hval 0 41 v0 rfl rfl) h0
    obtain ⟨b, e0, _⟩ := DataW.trod_bool Tryd.underlying4 hy0
    simp only [List.cons.injEq, and_true] at e0
    subst e0
    rcases open_ints Tryd.underlying22 Tryd.underlying32 (by kernel_rfl) hy1 with ⟨hcs, _⟩ | ⟨x, l, c, zs, hcs, _, hl, hm, hz, _, hcell, hwz⟩
    · simp only [List.cons.injEq, and_true] at hcs
      subst hcs
      exact ⟨b, none, 0, 0, [], rfl, .inl ⟨rfl, rfl, rfl, rfl⟩⟩
    · simp only [List.cons.injEq, and_true] at hcs
      subst hcs
      exact ⟨b, some x, l, c, zs, rfl, .inr ⟨_, rfl, hl, hm, by simpa using hz, hcell, hwz⟩⟩
  obtain ⟨xs0, rfl, n0⟩ := isrow_nums w0
  obtain ⟨z1, rfl, rfl, rfl, w1⟩ := open_int Tryd.underlying3 (hval 1 3 v1 rfl rfl) h1
  clear hA0 hval0 hL
  refine (itwos_walk b0 a0 c0 xs0 z1 W n0 (bounds_i64 w1) hT).mono fun e W' ⟨he, bel⟩ => ?_
  subst he
  exact ⟨_, rfl, _, _, _, [], _, [], hW', trodAll_mk1 (shut_bool Tryd.underlying4 _), (trodAll_cons_mk (Below.trod integerTwos_laidOut (by kernel_rfl) (of_decide_eq_true (by kernel_rfl)) k0 bel lt0) (trodAll_cons_mk (shut_int Tryd.underlying3 w1) trodAll_mk0)), rfl, bel.frame _, fun h => by cases h⟩

/-- a world whose table holds what its initialiser lays -/
def integerTwos_laidOf (h : World) : World := { h with heap := h.heap.modify 0 fun
      | .cells _ t frozen => .cells #[.int .u8 0, .int .u8 1, .int .u8 28, .int .u8 2, .int .u8 29, .int .u8 14, .int .u8 24, .int .u8 3, .int .u8 30, .int .u8 22, .int .u8 20, .int .u8 15, .int .u8 25, .int .u8 17, .int .u8 4, .int .u8 8, .int .u8 31, .int .u8 27, .int .u8 13, .int .u8 23, .int .u8 21, .int .u8 19, .int .u8 16, .int .u8 7, .int .u8 26, .int .u8 12, .int .u8 18, .int .u8 6, .int .u8 11, .int .u8 5, .int .u8 10, .int .u8 9] t frozen
      | o => o }
theorem integerTwos_met (os : Os) : laidMet Tryd.prog Rows.integerTwosRow.laid ((integerTwos_laidOf (World.holding Tryd.prog os ⟨#[], #[], []⟩)).forCall (fun _ _ => 0) ⟨#[], #[.agg #[.bool false, .slice none 0 0], .int .i64 0], []⟩).memory :=
  laidMet_of_run' 8 (by kernel_rfl) (by kernel_rfl)
theorem integerTwos_reads (os : Os) {H : Type} (enc : TypeId × Value → H) : ∃ places, DataW.whole enc Tryd.prog ((integerTwos_laidOf (World.holding Tryd.prog os ⟨#[], #[], []⟩)).forCall (fun _ _ => 0) ⟨#[], #[.agg #[.bool false, .slice none 0 0], .int .i64 0], []⟩).memory Tryd.f5.params.toList Rows.integerTwosSpec.vars false (#[.agg #[.bool false, .slice none 0 0], .int .i64 0] : Array Value).toList 8 = some ([.agg [.lit (.bool false), .nil], .lit (.int .i64 0)], [], places) :=
  ⟨[], by kernel_rfl⟩
set_option maxRecDepth 100000 in
theorem integerTwos_lifted (os : Os) (started : os.Started) (H : Type) (enc : TypeId × Value → H) (F : Stop.Interp) :
    ReturnsInHanded {} Tryd.checked os 5 .any ((OpenSpec.ofChange Rows.integerTwosSpec).preRow enc Tryd.prog Tryd.f5 Rows.integerTwosRow.domain false Rows.integerTwosRow.laid) (((OpenSpec.ofChange Rows.integerTwosSpec).at F).post enc Tryd.prog Tryd.f5 false true false false) := by
  obtain ⟨places, hx⟩ := integerTwos_reads os enc
  refine returnsInHanded_of_row (C := Tryd.checked) (s := OpenSpec.ofChange Rows.integerTwosSpec) integerTwos_own started (by kernel_rfl) Tryd.func5
    (witness_row_at (enc := enc) (C := Tryd.checked) false (integerTwos_laidOf (World.holding Tryd.prog os ⟨#[], #[], []⟩)) #[.agg #[.bool false, .slice none 0 0], .int .i64 0] rfl (by kernel_rfl) (by kernel_rfl) (by kernel_rfl)
      (OpenSpec.preRow_of_cond 8 hx (by kernel_rfl) (fun k hk => by cases hk) (by kernel_rfl) (integerTwos_met os))) ?_
  intro W base args ds gs before hval hW _ _ _ hL _ _
  exact integerTwos_contract H enc W base args ds gs before hval hW hL

theorem integerTwos_said : Rows.IntegerTwosSaid :=
  OpenClaim.holds_of_cond 5 Tryd.f5 rfl rfl rfl rfl rfl rfl rfl ⟨rfl, rfl, rfl, rfl, rfl⟩ rfl rfl rfl rfl rfl (by kernel_rfl) Tryd.func5 (by kernel_rfl)
    (of_decide_eq_true (by kernel_rfl)) (by unfold Func.isWrapper; first | (rw [if_pos (by decide +kernel)]; kernel_rfl) | (rw [if_neg (by decide +kernel)]; exact ⟨rfl, rfl⟩))
    (fun os started H enc _ F => by rw [OpenClaim.pre_eq_preRow]; exact integerTwos_lifted os started H enc F)
theorem integerTwos_plain (f : FuncId) (fn : Func) (hf : Tryd.pinned.checked.prog.funcNamed "swage/swagelaw02.IntegerTwos" = some f) (hfn : Tryd.pinned.checked.prog.funcs[f]? = some fn) :
    false = Tryd.pinned.checked.prog.looks [] ∧ ∀ (j : Nat) t, fn.params[j]? = some t → Tryd.pinned.checked.prog.wantsStandIn t = false := by
  obtain rfl : f = 5 := Option.some.inj ((show Tryd.prog.funcNamed "swage/swagelaw02.IntegerTwos" = some 5 by kernel_rfl).symm.trans hf) |>.symm
  obtain rfl : fn = Tryd.f5 := (Option.some.inj (Tryd.func5.symm.trans hfn)).symm
  refine ⟨by kernel_rfl, fun j t ht => ?_⟩
  rw [Tryd.params5] at ht
  have hm := Array.mem_of_getElem? ht
  simp at hm
  rcases hm with rfl | rfl
  · exact (show Tryd.prog.wantsStandIn 41 = false by kernel_rfl)
  · exact (show Tryd.prog.wantsStandIn 3 = false by kernel_rfl)

theorem integerTwos_card : Rows.IntegerTwosCardSaid :=
  Claim7.holds_tied_plain_at .later [] _ _ _ _ integerTwos_said (fun _ h => by cases h) (by kernel_rfl) (fun _ h => by cases h) integerTwos_row_tie rfl ⟨rfl, rfl⟩ (by kernel_rfl) rfl integerTwos_plain (by kernel_rfl)
#print axioms integerTwos_card
end Go.Proofs.YtmibgcpafccliaaDoor
