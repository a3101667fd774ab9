/- prog.raised: an instruction all of whose registers are by so much more. -/
import Derived.Test.YtheakienigmkhaaPgCopy
namespace Go.Proofs.Ytheakienigmkhaa
open Go.RowKit

def raiseI (i : Ins) (n : Int) : Ins := ⟨i.op, i.to + n, i.a + n, if twoB i.op then i.b + n else i.b, i.c⟩
theorem info_ins1 : (Try.prog.info? 40).map (·.size) = some 5 := by kernel_rfl
theorem Box5.free {W : World} {B : Nat} {t : TypeId} {i : Ins} (h : Box5 W B t i) (o : Nat) : W.frozen? ⟨B, o, none⟩ = false := by simp [World.frozen?, show W.heap[B]? = _ from h]
theorem ret_ins {fn : Func} {R : Ending → World → Prop} {a : Act} {w : World} {p : Tmp} (h : fn.results = #[.cell p 40]) (g : Nat) (i : Ins)
    (hp : a.tmps.getD p undef = .pointer (some ⟨g, 0, none⟩)) (hg : Box5 w g 40 i) (hd : a.defers = []) (hR : R (.returned (.agg #[.int .i64 i.op, .int .i64 i.to, .int .i64 i.a, .int .i64 i.b, .int .i64 i.c])) w) : bodyPost Try.prog fn R .ret a w := by
  refine bodyPost_ret ?_ hd hR
  have hp' : a.tmps[p]?.getD undef = .pointer (some ⟨g, 0, none⟩) := by simpa using hp
  simp [results, h, hp', asAddr, run_loadVar_row w g 40 40 i.vals (0, 0) _ hg Try.underlying40 rfl info_ins1, Ins.vals]
theorem Box5.set {W : World} {B : Nat} {t : TypeId} {i : Ins} (h : Box5 W B t i) (o : Nat) (c : Value) : (W.setCell ⟨B, o, none⟩ c).heap[B]? = some (.cells (i.vals.setIfInBounds o c) t (0, 0)) := by
  obtain ⟨hlt, hk⟩ := Array.getElem?_eq_some_iff.1 h
  show (W.heap.modify B _)[B]? = _
  rw [Array.getElem?_eq_getElem (by rw [Array.size_modify]; exact hlt), Array.getElem_modify_self, hk]
  rfl
theorem Box5.set0 {W : World} {B : Nat} {t : TypeId} {i : Ins} (h : Box5 W B t i) (n : Int) : Box5 (W.setCell ⟨B, 0, none⟩ (.int .i64 n)) B t ⟨n, i.to, i.a, i.b, i.c⟩ := h.set 0 _
theorem Box5.set1 {W : World} {B : Nat} {t : TypeId} {i : Ins} (h : Box5 W B t i) (n : Int) : Box5 (W.setCell ⟨B, 1, none⟩ (.int .i64 n)) B t ⟨i.op, n, i.a, i.b, i.c⟩ := h.set 1 _
theorem Box5.set2 {W : World} {B : Nat} {t : TypeId} {i : Ins} (h : Box5 W B t i) (n : Int) : Box5 (W.setCell ⟨B, 2, none⟩ (.int .i64 n)) B t ⟨i.op, i.to, n, i.b, i.c⟩ := h.set 2 _
theorem Box5.set3 {W : World} {B : Nat} {t : TypeId} {i : Ins} (h : Box5 W B t i) (n : Int) : Box5 (W.setCell ⟨B, 3, none⟩ (.int .i64 n)) B t ⟨i.op, i.to, i.a, n, i.c⟩ := h.set 3 _
theorem Box5.set4 {W : World} {B : Nat} {t : TypeId} {i : Ins} (h : Box5 W B t i) (n : Int) : Box5 (W.setCell ⟨B, 4, none⟩ (.int .i64 n)) B t ⟨i.op, i.to, i.a, i.b, n⟩ := h.set 4 _
theorem Box5.set_ne {W : World} {B C o : Nat} {t : TypeId} {i : Ins} (h : Box5 W B t i) (hne : C ≠ B) (c : Value) : Box5 (W.setCell ⟨C, o, none⟩ c) B t i := by
  show (W.heap.modify C _)[B]? = _
  rw [Array.getElem?_modify, if_neg hne]; exact h

end Go.Proofs.Ytheakienigmkhaa
