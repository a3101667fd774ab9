/- How many instructions of each kind: prog.Count, swageref08.Count. -/
import Derived.Test.YtheakienigmkhaaPgJoin1
import Derived.Test.YtheakienigmkhaaPgChecksWalk
namespace Go.Proofs.Ytheakienigmkhaa
open Go.RowKit

def cls (op : Int) : Nat := if op = 1 then 0 else if op ≤ 4 then 1 else if op = 5 then 2 else if op = 6 then 3 else 4
def cnt (j : Nat) (l : List Ins) : Int := (l.countP (fun i => cls i.op == j) : Nat)
/-- the five counts, as five numbers -/
def cntI (l : List Ins) : Ins := ⟨cnt 0 l, cnt 1 l, cnt 2 l, cnt 3 l, cnt 4 l⟩
theorem cnt_take (j : Nat) (l : List Ins) (k : Nat) (h : k < l.length) : cnt j (l.take (k + 1)) = cnt j (l.take k) + (if cls (cd l k).op = j then 1 else 0) := by
  unfold cnt
  rw [List.take_succ_eq_append_getElem h, List.countP_append, cd_lt h]
  simp only [List.countP_cons, List.countP_nil, Nat.zero_add, beq_iff_eq]
  split <;> simp
theorem cnt_nonneg (j : Nat) (l : List Ins) : 0 ≤ cnt j l := by unfold cnt; omega
theorem cnt_le (j : Nat) (l : List Ins) : cnt j l ≤ l.length := by unfold cnt; have := List.countP_le_length (p := fun i : Ins => cls i.op == j) (l := l); omega
theorem Box5.setAt {W : World} {B : Nat} {t : TypeId} {i : Ins} (h : Box5 W B t i) (o : Nat) (c : Value) : (W.setCell ⟨B, o, none⟩ c).heap[B]? = some (.cells (i.vals.setIfInBounds o c) t (0, 0)) := by
  obtain ⟨hlt, hk⟩ := Array.getElem?_eq_some_iff.1 h
  show (W.heap.modify B _)[B]? = _
  rw [Array.getElem?_eq_getElem (by rw [Array.size_modify]; exact hlt), Array.getElem_modify_self, hk]
  rfl
theorem cntI_set0 (l : List Ins) (k : Nat) (h : k < l.length) (hc : cls (cd l k).op = 0) {W : World} {B : Nat} {t : TypeId} (hb : Box5 W B t (cntI (l.take k))) : Box5 (W.setCell ⟨B, 0, none⟩ (.int .i64 (cnt 0 (l.take k) + 1))) B t (cntI (l.take (k + 1))) := by
  refine (hb.setAt 0 _).trans ?_
  unfold cntI Ins.vals
  simp only [cnt_take _ l k h, hc]
  rfl
theorem cntI_set1 (l : List Ins) (k : Nat) (h : k < l.length) (hc : cls (cd l k).op = 1) {W : World} {B : Nat} {t : TypeId} (hb : Box5 W B t (cntI (l.take k))) : Box5 (W.setCell ⟨B, 1, none⟩ (.int .i64 (cnt 1 (l.take k) + 1))) B t (cntI (l.take (k + 1))) := by
  refine (hb.setAt 1 _).trans ?_
  unfold cntI Ins.vals
  simp only [cnt_take _ l k h, hc]
  rfl
theorem cntI_set2 (l : List Ins) (k : Nat) (h : k < l.length) (hc : cls (cd l k).op = 2) {W : World} {B : Nat} {t : TypeId} (hb : Box5 W B t (cntI (l.take k))) : Box5 (W.setCell ⟨B, 2, none⟩ (.int .i64 (cnt 2 (l.take k) + 1))) B t (cntI (l.take (k + 1))) := by
  refine (hb.setAt 2 _).trans ?_
  unfold cntI Ins.vals
  simp only [cnt_take _ l k h, hc]
  rfl
theorem cntI_set3 (l : List Ins) (k : Nat) (h : k < l.length) (hc : cls (cd l k).op = 3) {W : World} {B : Nat} {t : TypeId} (hb : Box5 W B t (cntI (l.take k))) : Box5 (W.setCell ⟨B, 3, none⟩ (.int .i64 (cnt 3 (l.take k) + 1))) B t (cntI (l.take (k + 1))) := by
  refine (hb.setAt 3 _).trans ?_
  unfold cntI Ins.vals
  simp only [cnt_take _ l k h, hc]
  rfl
theorem cntI_set4 (l : List Ins) (k : Nat) (h : k < l.length) (hc : cls (cd l k).op = 4) {W : World} {B : Nat} {t : TypeId} (hb : Box5 W B t (cntI (l.take k))) : Box5 (W.setCell ⟨B, 4, none⟩ (.int .i64 (cnt 4 (l.take k) + 1))) B t (cntI (l.take (k + 1))) := by
  refine (hb.setAt 4 _).trans ?_
  unfold cntI Ins.vals
  simp only [cnt_take _ l k h, hc]
  rfl
theorem Box5.put {W : World} {B : Nat} {t : TypeId} {i : Ins} (h : Box5 W B t i) (x : Ins) : Box5 (((((W.setCell ⟨B, 0, none⟩ (.int .i64 x.op)).setCell ⟨B, 1, none⟩ (.int .i64 x.to)).setCell ⟨B, 2, none⟩ (.int .i64 x.a)).setCell ⟨B, 3, none⟩ (.int .i64 x.b)).setCell ⟨B, 4, none⟩ (.int .i64 x.c)) B t x := by
  have h0 : Box5 (W.setCell ⟨B, 0, none⟩ (.int .i64 x.op)) B t ⟨x.op, i.to, i.a, i.b, i.c⟩ := h.setAt 0 _
  have h1 : Box5 _ B t ⟨x.op, x.to, i.a, i.b, i.c⟩ := h0.setAt 1 (.int .i64 x.to)
  have h2 : Box5 _ B t ⟨x.op, x.to, x.a, i.b, i.c⟩ := h1.setAt 2 (.int .i64 x.a)
  have h3 : Box5 _ B t ⟨x.op, x.to, x.a, x.b, i.c⟩ := h2.setAt 3 (.int .i64 x.b)
  exact h3.setAt 4 (.int .i64 x.c)
theorem below_put5 {n : Nat} {w W : World} (h : Below n w W) {C : Nat} (hC : n ≤ C) (a b c d e : Value) : Below n w (((((W.setCell ⟨C, 0, none⟩ a).setCell ⟨C, 1, none⟩ b).setCell ⟨C, 2, none⟩ c).setCell ⟨C, 3, none⟩ d).setCell ⟨C, 4, none⟩ e) :=
  ((((h.setCell (p := ⟨C, 0, none⟩) hC _).setCell (p := ⟨C, 1, none⟩) hC _).setCell (p := ⟨C, 2, none⟩) hC _).setCell (p := ⟨C, 3, none⟩) hC _).setCell (p := ⟨C, 4, none⟩) hC _
end Go.Proofs.Ytheakienigmkhaa
