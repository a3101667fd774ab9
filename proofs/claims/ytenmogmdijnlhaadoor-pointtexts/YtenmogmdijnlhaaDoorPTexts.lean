/- The statement PointTexts answers true at every list of points; no condition. -/
import Derived.Test.YtenmogmdijnlhaaDoorCards
import Derived.Test.YtenmogmdijnlhaaDoorTie
import Derived.WalkKit
import Derived.ProofKit
import Derived.OpenShut
import Derived.ShutString
import Derived.ChangeOld
import Derived.Below
import Derived.Deep.DeepHandedRow
import Derived.Lib.LaidTab
import Derived.Lib.SmallJoins
import Derived.Stop.LaidErr
import Derived.Test.YtenmogmdijnlhaaDoorPtTextsWalk
import Derived.Test.YtenmogmdijnlhaaDoorPtOpen
namespace Go.Proofs.YtenmogmdijnlhaaDoor
open Go.ChangeShapes Go.WideShapes Go.ChangeAt Go.RowKit Go.Joins
open Go.ChangeMaps (open_string shut_string)
set_option linter.unusedVariables false

theorem pointTexts_own : ownKnob Tryd.prog.godebug = none := by kernel_rfl
theorem pointTexts_laidOut : laidOutB Tryd.prog = true := by kernel_rfl
set_option maxRecDepth 100000 in
theorem pointTexts_met0 {W : World} (h : laidMetH Tryd.prog Rows.pointTextsRow.laid W) : laidMet Tryd.prog Rows.pointTextsRow.laid W := h
theorem pointTexts_gTab : Tryd.prog.globalNamed "internal/strconv.uint64pow10" = some 5 := by kernel_rfl
theorem pointTexts_gType : (Tryd.prog.globals[5]?).map (·.type) = some 176 := by kernel_rfl
theorem pointTexts_cellsT : Tryd.prog.cellsOf 176 = 20 := by kernel_rfl
theorem pointTexts_cellsE : Tryd.prog.cellsOf 119 = 1 := by kernel_rfl
theorem pointTexts_table {W : World} (h : laidMet Tryd.prog Rows.pointTextsRow.laid W) : Lib.TabIs Tryd.prog W "internal/strconv.uint64pow10" .u64 [1, 10, 100, 1000, 10000, 100000, 1000000, 10000000, 100000000, 1000000000, 10000000000, 100000000000, 1000000000000, 10000000000000, 100000000000000, 1000000000000000, 10000000000000000, 100000000000000000, 1000000000000000000, 10000000000000000000] :=
  Lib.tabIs_of_head pointTexts_gTab pointTexts_gType Tryd.underlying176 Tryd.underlying119 pointTexts_cellsE pointTexts_cellsT (h.tail.tail)
theorem pointTexts_star : "*" ++ "errors.errorString" = "*errors.errorString" := by decide
theorem pointTexts_rowE (u : TypeId) (h : Tryd.prog.typeName? 3 u = some "*errors.errorString") : u = 180 :=
  typeName_ptr_named (nm := "errors.errorString") (by rw [pointTexts_star]; kernel_rfl) (by kernel_rfl) (by decide) u (by rw [pointTexts_star]; exact h)
theorem pointTexts_cellsES : Tryd.prog.cellsOf 182 = 1 := by kernel_rfl
theorem pointTexts_cellsST : Tryd.prog.cellsOf 9 = 1 := by kernel_rfl
theorem pointTexts_gE0 : Tryd.prog.globalNamed "strconv.ErrSyntax" = some 3 := by kernel_rfl
theorem pointTexts_gET0 : (Tryd.prog.globals[3]?).map (·.type) = some 97 := by kernel_rfl
theorem pointTexts_err0 {W : World} (h : laidMet Tryd.prog Rows.pointTextsRow.laid W) : ∃ tp p, W.var? Tryd.prog "strconv.ErrSyntax" = some #[.iface tp p] := by
  obtain ⟨a, s, hv, _⟩ := laid_sentinel (h.tail.tail.tail.tail.tail) pointTexts_gE0 pointTexts_gET0 Tryd.underlying97 pointTexts_rowE Tryd.underlying180 Tryd.underlying182 rfl rfl Tryd.underlying9 pointTexts_cellsES pointTexts_cellsST
  exact ⟨_, _, hv⟩
theorem pointTexts_gE1 : Tryd.prog.globalNamed "strconv.ErrRange" = some 4 := by kernel_rfl
theorem pointTexts_gET1 : (Tryd.prog.globals[4]?).map (·.type) = some 97 := by kernel_rfl
theorem pointTexts_err1 {W : World} (h : laidMet Tryd.prog Rows.pointTextsRow.laid W) : ∃ tp p, W.var? Tryd.prog "strconv.ErrRange" = some #[.iface tp p] := by
  obtain ⟨a, s, hv, _⟩ := laid_sentinel (h.tail.tail.tail.tail) pointTexts_gE1 pointTexts_gET1 Tryd.underlying97 pointTexts_rowE Tryd.underlying180 Tryd.underlying182 rfl rfl Tryd.underlying9 pointTexts_cellsES pointTexts_cellsST
  exact ⟨_, _, hv⟩
set_option maxRecDepth 100000 in
theorem pointTexts_contract (H : Type) (enc : TypeId × Value → H) (W : World) (base : Nat) (args : Array Value) (ds gs : List (DataW H)) (before : List MemPlace)
    (hval0 : ∀ (j : Nat) t v, Tryd.f4.params[j]? = some t → args[j]? = some v → Value.okWide Tryd.prog W .any base t v)
    (hW : DataW.Whole enc Tryd.prog Tryd.f4.params.toList Rows.pointTextsSpec.vars false W args.toList ds gs before) (hL : laidMetH Tryd.prog Rows.pointTextsRow.laid W) :
    Calls Tryd.prog 4 args W fun e W' => ∃ v, e = .returned v ∧ Rows.pointTextsSpec.post enc Tryd.prog Tryd.f4 false true false false W args v W' := by
  have hL0 := pointTexts_met0 hL
  have hT := pointTexts_table hL0
  have hE0 := pointTexts_err0 hL0
  have hE1 := pointTexts_err1 hL0
  have hval := hval0
  have hW' := hW
  obtain ⟨p, q, hA0, hV, rfl, hfz, hnd⟩ := hW
  have hA : DataW.TrodAll enc Tryd.prog W 0 (fun _ => true) true Tryd.f4.params.toList args.toList ds p := hA0
  rw [Tryd.params4] at hA hval
  obtain ⟨v0, vs0, d0, ds0, p0, q0, hargs, rfl, rfl, h0, r0⟩ := trodAll_cons hA
  obtain ⟨rfl, rfl, rfl⟩ := trodAll_nil r0
  obtain rfl : args = #[v0] := by cases args; simp_all
  obtain ⟨rfl, rfl⟩ := trodVars_none hV
  obtain ⟨a0, len0, c0, rfl⟩ := okWide_slice Tryd.underlying39 (hval 0 39 v0 rfl rfl)
  have k0 := h0
  have lt0 : ∀ x ∈ p0, x.block < W.heap.size := by obtain ⟨m, hm⟩ := k0; exact DataW.trod_lt m _ _ _ hm
  obtain ⟨ps0, n0, wf0⟩ := open_pts h0
  clear hA0 hval0 hL
  refine (ptexts_walk _ ps0 _ n0 (pts_wide wf0) hT ⟨hE0, hE1⟩).mono fun e W' ⟨he, bel⟩ => ?_
  subst he
  exact ⟨_, rfl, _, _, _, [], _, [], hW', trodAll_mk1 (shut_bool Tryd.underlying4 _), (trodAll_cons_mk (Below.trod pointTexts_laidOut (by kernel_rfl) (of_decide_eq_true (by kernel_rfl)) k0 bel lt0) trodAll_mk0), rfl, bel.frame _, fun h => by cases h⟩

/-- a world whose tables hold what their initialisers lay -/
def pointTexts_lay (gn : Nat) (cs : Array Value) (h : World) : World := { h with heap := h.heap.modify gn fun
      | .cells _ t frozen => .cells cs t frozen
      | o => o }
noncomputable def pointTexts_low : Nat := (World.holding Tryd.prog default ⟨#[], #[], []⟩).heap.size
noncomputable def pointTexts_laidOf (os : Os) : World := (pointTexts_lay 3 #[.iface 180 (.pointer (some ⟨pointTexts_low + 1, 0, none⟩))] (pointTexts_lay 4 #[.iface 180 (.pointer (some ⟨pointTexts_low + 0, 0, none⟩))] (pointTexts_lay 1 (Go.Pinned.utf8FirstZ.map fun n : Nat => Value.int .u8 (n : Int)).toArray (pointTexts_lay 2 #[.int .u8 128, .int .u8 191, .int .u8 160, .int .u8 191, .int .u8 128, .int .u8 159, .int .u8 144, .int .u8 191, .int .u8 128, .int .u8 143, .int .u8 0, .int .u8 0, .int .u8 0, .int .u8 0, .int .u8 0, .int .u8 0, .int .u8 0, .int .u8 0, .int .u8 0, .int .u8 0, .int .u8 0, .int .u8 0, .int .u8 0, .int .u8 0, .int .u8 0, .int .u8 0, .int .u8 0, .int .u8 0, .int .u8 0, .int .u8 0, .int .u8 0, .int .u8 0] (pointTexts_lay 5 #[.int .u64 1, .int .u64 10, .int .u64 100, .int .u64 1000, .int .u64 10000, .int .u64 100000, .int .u64 1000000, .int .u64 10000000, .int .u64 100000000, .int .u64 1000000000, .int .u64 10000000000, .int .u64 100000000000, .int .u64 1000000000000, .int .u64 10000000000000, .int .u64 100000000000000, .int .u64 1000000000000000, .int .u64 10000000000000000, .int .u64 100000000000000000, .int .u64 1000000000000000000, .int .u64 10000000000000000000] (pointTexts_lay 7 #[.int .u8 0, .int .u8 1, .int .u8 56, .int .u8 2, .int .u8 57, .int .u8 49, .int .u8 28, .int .u8 3, .int .u8 61, .int .u8 58, .int .u8 42, .int .u8 50, .int .u8 38, .int .u8 29, .int .u8 17, .int .u8 4, .int .u8 62, .int .u8 47, .int .u8 59, .int .u8 36, .int .u8 45, .int .u8 43, .int .u8 51, .int .u8 22, .int .u8 53, .int .u8 39, .int .u8 33, .int .u8 30, .int .u8 24, .int .u8 18, .int .u8 12, .int .u8 5, .int .u8 63, .int .u8 55, .int .u8 48, .int .u8 27, .int .u8 60, .int .u8 41, .int .u8 37, .int .u8 16, .int .u8 46, .int .u8 35, .int .u8 44, .int .u8 21, .int .u8 52, .int .u8 32, .int .u8 23, .int .u8 11, .int .u8 54, .int .u8 26, .int .u8 40, .int .u8 15, .int .u8 34, .int .u8 20, .int .u8 31, .int .u8 10, .int .u8 25, .int .u8 14, .int .u8 19, .int .u8 9, .int .u8 13, .int .u8 8, .int .u8 7, .int .u8 6] (pointTexts_lay 6 #[.int .u8 0, .int .u8 1, .int .u8 28, .int .u8 2, .int .u8 29, .int .u8 14, .int .u8 24, .int .u8 3, .int .u8 30, .int .u8 22, .int .u8 20, .int .u8 15, .int .u8 25, .int .u8 17, .int .u8 4, .int .u8 8, .int .u8 31, .int .u8 27, .int .u8 13, .int .u8 23, .int .u8 21, .int .u8 19, .int .u8 16, .int .u8 7, .int .u8 26, .int .u8 12, .int .u8 18, .int .u8 6, .int .u8 11, .int .u8 5, .int .u8 10, .int .u8 9] (World.holding Tryd.prog os ⟨#[.cells #[.string { data := #[118, 97, 108, 117, 101, 32, 111, 117, 116, 32, 111, 102, 32, 114, 97, 110, 103, 101] }] 182, .cells #[.string { data := #[105, 110, 118, 97, 108, 105, 100, 32, 115, 121, 110, 116, 97, 120] }] 182], #[], []⟩))))))))
theorem pointTexts_met (os : Os) : laidMet Tryd.prog Rows.pointTextsRow.laid ((pointTexts_laidOf os).forCall (fun _ _ => 0) ⟨#[], #[.slice none 0 0], []⟩).memory :=
  laidMet_of_run' 8 (by kernel_rfl) (by kernel_rfl)
theorem pointTexts_reads (os : Os) {H : Type} (enc : TypeId × Value → H) : ∃ places, DataW.whole enc Tryd.prog ((pointTexts_laidOf os).forCall (fun _ _ => 0) ⟨#[], #[.slice none 0 0], []⟩).memory Tryd.f4.params.toList Rows.pointTextsSpec.vars false (#[.slice none 0 0] : Array Value).toList 8 = some ([.nil], [], places) :=
  ⟨[], by kernel_rfl⟩
set_option maxRecDepth 100000 in
theorem pointTexts_lifted (os : Os) (started : os.Started) (H : Type) (enc : TypeId × Value → H) (F : Stop.Interp) :
    ReturnsInHanded {} Tryd.checked os 4 .any ((OpenSpec.ofChange Rows.pointTextsSpec).preRow enc Tryd.prog Tryd.f4 Rows.pointTextsRow.domain false Rows.pointTextsRow.laid) (((OpenSpec.ofChange Rows.pointTextsSpec).at F).post enc Tryd.prog Tryd.f4 false true false false) := by
  obtain ⟨places, hx⟩ := pointTexts_reads os enc
  refine returnsInHanded_of_row (C := Tryd.checked) (s := OpenSpec.ofChange Rows.pointTextsSpec) pointTexts_own started (by kernel_rfl) Tryd.func4
    (witness_row_at (enc := enc) (C := Tryd.checked) false (pointTexts_laidOf os) #[.slice none 0 0] rfl (by kernel_rfl) (by kernel_rfl) (by kernel_rfl)
      (OpenSpec.preRow_of_cond 8 hx (by kernel_rfl) (fun k hk => by cases hk) (by kernel_rfl) (pointTexts_met os))) ?_
  intro W base args ds gs before hval hW _ _ _ hL _ _
  exact pointTexts_contract H enc W base args ds gs before hval hW hL

theorem pointTexts_said : Rows.PointTextsSaid :=
  OpenClaim.holds_of_cond 4 Tryd.f4 rfl rfl rfl rfl rfl rfl rfl ⟨rfl, rfl, rfl, rfl, rfl⟩ rfl rfl rfl rfl rfl (by kernel_rfl) Tryd.func4 (by kernel_rfl)
    (of_decide_eq_true (by kernel_rfl)) (by unfold Func.isWrapper; first | (rw [if_pos (by decide +kernel)]; kernel_rfl) | (rw [if_neg (by decide +kernel)]; exact ⟨rfl, rfl⟩))
    (fun os started H enc _ F => by rw [OpenClaim.pre_eq_preRow]; exact pointTexts_lifted os started H enc F)
theorem pointTexts_plain (f : FuncId) (fn : Func) (hf : Tryd.pinned.checked.prog.funcNamed "swage/swagelaw06.PointTexts" = some f) (hfn : Tryd.pinned.checked.prog.funcs[f]? = some fn) :
    true = Tryd.pinned.checked.prog.looks [] ∧ ∀ (j : Nat) t, fn.params[j]? = some t → Tryd.pinned.checked.prog.wantsStandIn t = false := by
  obtain rfl : f = 4 := Option.some.inj ((show Tryd.prog.funcNamed "swage/swagelaw06.PointTexts" = some 4 by kernel_rfl).symm.trans hf) |>.symm
  obtain rfl : fn = Tryd.f4 := (Option.some.inj (Tryd.func4.symm.trans hfn)).symm
  refine ⟨by kernel_rfl, fun j t ht => ?_⟩
  rw [Tryd.params4] at ht
  have hm := Array.mem_of_getElem? ht
  simp at hm
  obtain rfl := hm
  · exact (show Tryd.prog.wantsStandIn 39 = false by kernel_rfl)

theorem pointTexts_card : Rows.PointTextsCardSaid :=
  Claim7.holds_tied_plain_at .later [] _ _ _ _ pointTexts_said (fun _ h => by cases h) (by kernel_rfl) (fun _ h => by cases h) pointTexts_row_tie rfl ⟨rfl, rfl⟩ (by kernel_rfl) rfl pointTexts_plain (by kernel_rfl)
#print axioms pointTexts_card
end Go.Proofs.YtenmogmdijnlhaaDoor
