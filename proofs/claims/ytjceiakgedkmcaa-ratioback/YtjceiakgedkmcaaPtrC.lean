/- A pointer to a new block of cells: what is known of it while a statement is done by facts (RegG). -/
import Derived.Test.YtjceiakgedkmcaaRegG
import Derived.Test.YtjceiakgedkmcaaIMade
import Derived.Test.YtjceiakgedkmcaaCalm3
namespace Go.Proofs.Ytjceiakgedkmcaa
open Go.RowKit

/-- the block's cells -/
def Cells (w : World) (g : Nat) (t : TypeId) (cs : List Value) : Prop := w.heap[g]? = some (.cells cs.toArray t (0, 0))
theorem Cells.lt {w : World} {g : Nat} {t : TypeId} {cs : List Value} (h : Cells w g t cs) : g < w.heap.size := (Array.getElem?_eq_some_iff.1 h).1
theorem Cells.cell {w : World} {g : Nat} {t : TypeId} {cs : List Value} (h : Cells w g t cs) (k : Nat) {x : Value} (hx : cs[k]? = some x) : w.cell? ⟨g, k, none⟩ = some x := by
  simp only [World.cell?, show w.heap[g]? = _ from h]
  simpa using hx
theorem Cells.free {w : World} {g : Nat} {t : TypeId} {cs : List Value} (h : Cells w g t cs) (o : Nat) : w.frozen? ⟨g, o, none⟩ = false := by simp [World.frozen?, show w.heap[g]? = _ from h]
theorem Cells.step {w w' : World} {g : Nat} {t : TypeId} {cs : List Value} (h : Cells w g t cs) (hb : Below w.heap.size w w') : Cells w' g t cs := (hb.block g h.lt).trans h
theorem Cells.new (w : World) (t : TypeId) (cs : List Value) : Cells (w.alloc (.cells cs.toArray t)) w.heap.size t cs := heap_alloc_new _ _
theorem Cells.set {w : World} {g : Nat} {t : TypeId} {cs : List Value} (h : Cells w g t cs) (k : Nat) (v : Value) : Cells (w.setCell ⟨g, k, none⟩ v) g t (cs.set k v) := by
  obtain ⟨hlt, hk⟩ := Array.getElem?_eq_some_iff.1 h
  show (w.heap.modify g _)[g]? = _
  rw [Array.getElem?_eq_getElem (by rw [Array.size_modify]; exact hlt), Array.getElem_modify_self, hk]
  simp
theorem Cells.set_ne {w : World} {g C : Nat} {t : TypeId} {cs : List Value} (h : Cells w g t cs) (hne : C ≠ g) (k : Nat) (v : Value) : Cells (w.setCell ⟨C, k, none⟩ v) g t cs := by
  show (w.heap.modify C _)[g]? = _
  rw [Array.getElem?_modify, if_neg hne]; exact h
/-- all cells of a block written, one behind the other -/
def setAll (w : World) (C : Nat) : Nat → List Value → World
  | _, [] => w
  | k, v :: r => setAll (w.setCell ⟨C, k, none⟩ v) C (k + 1) r
theorem setCell_size (w : World) (p : Addr) (v : Value) : (w.setCell p v).heap.size = w.heap.size := by unfold World.setCell; simp
theorem setAll_size (C : Nat) : ∀ (vs : List Value) (k : Nat) (w : World), (setAll w C k vs).heap.size = w.heap.size
  | [], _, _ => rfl
  | v :: r, k, w => by unfold setAll; rw [setAll_size, setCell_size]
theorem Cells.all_ne {g C : Nat} {t : TypeId} {cs : List Value} (hne : C ≠ g) : ∀ (vs : List Value) (k : Nat) (w : World), Cells w g t cs → Cells (setAll w C k vs) g t cs
  | [], _, _, h => h
  | v :: r, k, _, h => Cells.all_ne hne r (k + 1) _ (h.set_ne hne k v)
theorem Cells.all {g : Nat} {t : TypeId} : ∀ (vs done cs : List Value) (w : World), Cells w g t (done ++ cs) → cs.length = vs.length → Cells (setAll w g done.length vs) g t (done ++ vs)
  | [], done, cs, _, h, hl => by
    have : cs = [] := List.eq_nil_of_length_eq_zero hl
    subst this; exact h
  | _ :: _, _, [], _, _, hl => by cases hl
  | v :: r, done, c :: cs, w, h, hl => by
    have h1 := h.set done.length v
    rw [List.set_append_right _ _ (Nat.le_refl _), Nat.sub_self, List.set_cons_zero] at h1
    have h2 := Cells.all r (done ++ [v]) cs (w.setCell ⟨g, done.length, none⟩ v) (by simpa using h1) (by simpa using hl)
    unfold setAll
    simpa using h2
theorem below_all {n : Nat} {w0 : World} {C : Nat} (hC : n ≤ C) : ∀ (vs : List Value) (k : Nat) (w : World), Below n w0 w → Below n w0 (setAll w C k vs)
  | [], _, _, h => h
  | v :: r, k, _, h => below_all hC r (k + 1) _ (h.setCell (p := ⟨C, k, none⟩) hC v)
/-- no cell is a limb -/
def NoLimbs (cs : List Value) : Prop := ∀ c ∈ cs, ∀ z, c ≠ .int .u32 z
theorem spares_all {C : Nat} {t : TypeId} : ∀ (vs done cs : List Value) (w : World), Cells w C t (done ++ cs) → cs.length = vs.length → NoLimbs cs → Spares w (setAll w C done.length vs)
  | [], _, _, _, _, _, _ => fun _ _ h => h
  | _ :: _, _, [], _, _, hl, _ => by cases hl
  | v :: r, done, c :: cs, w, h, hl, hn => by
    have h1 := h.set done.length v
    rw [List.set_append_right _ _ (Nat.le_refl _), Nat.sub_self, List.set_cons_zero] at h1
    have h2 := spares_all r (done ++ [v]) cs (w.setCell ⟨C, done.length, none⟩ v) (by simpa using h1) (by simpa using hl) (fun x hx => hn x (List.mem_cons_of_mem _ hx))
    rw [show (done ++ [v]).length = done.length + 1 by simp] at h2
    exact (Spares.set (h.cell done.length (by simp)) (hn c List.mem_cons_self) v).trans h2
/-- the pointer leads to a block that is not older than B -/
def PS (B : Nat) (w : World) (p : Value) : Prop := ∃ g, p = .pointer (some ⟨g, 0, none⟩) ∧ B ≤ g ∧ g < w.heap.size
/-- .. in which these cells lie -/
def PB (B : Nat) (w : World) (t : TypeId) (p : Value) (cs : List Value) : Prop := ∃ g, p = .pointer (some ⟨g, 0, none⟩) ∧ B ≤ g ∧ Cells w g t cs
/-- .. in which the cells of v lie -/
def PV (B : Nat) (w : World) (t : TypeId) (p v : Value) : Prop := ∃ g cs, p = .pointer (some ⟨g, 0, none⟩) ∧ B ≤ g ∧ v = .agg cs.toArray ∧ Cells w g t cs
theorem PS.step {B : Nat} {w w' : World} {p : Value} (h : PS B w p) (hb : Below w.heap.size w w') : PS B w' p := by
  obtain ⟨g, rfl, h1, h2⟩ := h; exact ⟨g, rfl, h1, Nat.lt_of_lt_of_le h2 hb.size⟩
theorem PB.step {B : Nat} {w w' : World} {t : TypeId} {p : Value} {cs : List Value} (h : PB B w t p cs) (hb : Below w.heap.size w w') : PB B w' t p cs := by
  obtain ⟨g, rfl, h1, h2⟩ := h; exact ⟨g, rfl, h1, h2.step hb⟩
theorem PV.step {B : Nat} {w w' : World} {t : TypeId} {p v : Value} (h : PV B w t p v) (hb : Below w.heap.size w w') : PV B w' t p v := by
  obtain ⟨g, cs, rfl, h1, rfl, h2⟩ := h; exact ⟨g, cs, rfl, h1, rfl, h2.step hb⟩
theorem PS.new {B : Nat} {w : World} (h : B ≤ w.heap.size) (o : Obj) : PS B (w.alloc o) (.pointer (some ⟨w.heap.size, 0, none⟩)) := ⟨_, rfl, h, by rw [World.size_alloc]; omega⟩
theorem PB.new {B : Nat} {w : World} (h : B ≤ w.heap.size) (t : TypeId) (cs : List Value) : PB B (w.alloc (.cells cs.toArray t)) t (.pointer (some ⟨w.heap.size, 0, none⟩)) cs := ⟨_, rfl, h, Cells.new _ _ _⟩
theorem PS.ne {B : Nat} {w : World} {p : Value} (h : PS B w p) : p ≠ .pointer (some ⟨w.heap.size, 0, none⟩) := by
  obtain ⟨g, rfl, _, h2⟩ := h
  intro e
  simp only [Value.pointer.injEq, Option.some.injEq, Addr.mk.injEq] at e
  omega
theorem PS.put {B C : Nat} {w : World} {p : Value} (h : PS B w p) (vs : List Value) : PS B (setAll w C 0 vs) p := by
  obtain ⟨g, rfl, h1, h2⟩ := h; exact ⟨g, rfl, h1, by rw [setAll_size]; exact h2⟩
theorem ptr_ne {g C : Nat} {p : Value} (h : p = .pointer (some ⟨g, 0, none⟩)) (hne : .pointer (some ⟨C, 0, none⟩) ≠ p) : C ≠ g := fun e => hne (by rw [h, e])
theorem PB.put {B C : Nat} {w : World} {t : TypeId} {p q : Value} {cs : List Value} (h : PB B w t p cs) (hq : q = .pointer (some ⟨C, 0, none⟩)) (hne : q ≠ p) (vs : List Value) : PB B (setAll w C 0 vs) t p cs := by
  subst hq
  obtain ⟨g, h0, h1, h2⟩ := h; exact ⟨g, h0, h1, h2.all_ne (ptr_ne h0 hne) _ _ _⟩
theorem PV.put {B C : Nat} {w : World} {t : TypeId} {p q v : Value} (h : PV B w t p v) (hq : q = .pointer (some ⟨C, 0, none⟩)) (hne : q ≠ p) (vs : List Value) : PV B (setAll w C 0 vs) t p v := by
  subst hq
  obtain ⟨g, cs, h0, h1, h3, h2⟩ := h; exact ⟨g, cs, h0, h1, h3, h2.all_ne (ptr_ne h0 hne) _ _ _⟩
theorem PV.set' {B C : Nat} {w : World} {t : TypeId} {p v : Value} {cs : List Value} (vs : List Value) (hp : p = .pointer (some ⟨C, 0, none⟩)) (hv : v = .agg vs.toArray) (h : Cells w C t cs) (hB : B ≤ C) (hl : cs.length = vs.length) :
    PV B (setAll w C 0 vs) t p v := by
  subst hp; subst hv
  exact ⟨C, vs, rfl, hB, rfl, Cells.all vs [] cs w h hl⟩
theorem keeps_all {C : Nat} {w : World} {t : TypeId} {cs : List Value} (h : Cells w C t cs) (hn : NoLimbs cs) (vs : List Value) (hl : cs.length = vs.length) : Spares w (setAll w C 0 vs) := spares_all vs [] cs w h hl hn
theorem no_yet {p : Prop} (h : (false : Bool) = true) : p := by cases h
theorem no_more {p : Prop} (h : (true : Bool) = false) : p := by cases h
end Go.Proofs.Ytjceiakgedkmcaa
