/- A variable that holds a number; how great numbers get; lists of three. -/
import Derived.Test.YtenmogmdijnlhaaDoorIMade
import Derived.Test.YtenmogmdijnlhaaDoorCalm
import Derived.Laws.Bits64b
import Derived.Test.YtenmogmdijnlhaaDoorBox
namespace Go.Proofs.YtenmogmdijnlhaaDoor
open Go.RowKit

def sgnI (z : Int) : Int := if z < 0 then -1 else if z = 0 then 0 else 1
def cmpZ (x y : Int) : Int := if x < y then -1 else if x = y then 0 else 1

/-- a struct handed on: what stands behind it in the end -/
theorem handed {w w' : World} {g : Nat} {x y : Value} {z : Int} {b : Bool} {n : Nat} {a : Option Addr} {c : Nat} (hX : Box w' g x y) (hx : ∀ z, x ≠ .int .u32 z) (hy : ∀ z, y ≠ .int .u32 z) (hg : w.heap.size ≤ g) (hB : Below w.heap.size w w')
    (hn : Nums w' (.slice a (lim n).length c) (lim n)) (he : z = sg b n) (h0 : n = 0 → b = false) :
    ∃ v, Ending.returned (.agg #[.bool b, .slice a (lim n).length c]) = .returned v ∧ IntAt ((w'.setCell ⟨g, 0, none⟩ (.bool b)).setCell ⟨g, 1, none⟩ (.slice a (lim n).length c)) v z ∧ Below w.heap.size w ((w'.setCell ⟨g, 0, none⟩ (.bool b)).setCell ⟨g, 1, none⟩ (.slice a (lim n).length c)) :=
  ⟨_, rfl, ⟨b, n, a, c, rfl, hX.keeps hx hy _ _ _ _ hn, he, h0⟩, (hB.setCell (p := ⟨g, 0, none⟩) hg _).setCell (p := ⟨g, 1, none⟩) hg _⟩



theorem neg_abs (z : Int) : (-z).natAbs = z.natAbs := by omega
end Go.Proofs.YtenmogmdijnlhaaDoor

namespace Go.Proofs.YtenmogmdijnlhaaDoor
open Go.RowKit

theorem cmpZ_lt {x y : Int} (h : x < y) : cmpZ x y = -1 := if_pos h
theorem cmpZ_eq (x : Int) : cmpZ x x = 0 := by unfold cmpZ; rw [if_neg (by omega), if_pos rfl]
theorem cmpZ_gt {x y : Int} (h : y < x) : cmpZ x y = 1 := by unfold cmpZ; rw [if_neg (by omega), if_neg (by omega)]
theorem cmpI_lt {m n : Nat} (h : m < n) : cmpI m n = -1 := if_pos h
theorem cmpI_eq (m : Nat) : cmpI m m = 0 := by unfold cmpI; rw [if_neg (by omega), if_neg (by omega)]
theorem cmpI_gt {m n : Nat} (h : n < m) : cmpI m n = 1 := by unfold cmpI; rw [if_neg (by omega), if_pos h]
theorem cmpZ_nn (m n : Nat) : cmpZ (sg false m) (sg false n) = cmpI m n := by
  rw [sg_false, sg_false]
  rcases Nat.lt_trichotomy m n with h | h | h
  · rw [cmpI_lt h, cmpZ_lt (by omega)]
  · subst h; rw [cmpI_eq, cmpZ_eq]
  · rw [cmpI_gt h, cmpZ_gt (by omega)]
theorem cmpZ_tt (m n : Nat) : cmpZ (sg true m) (sg true n) = cmpI n m := by
  rw [sg_true, sg_true]
  rcases Nat.lt_trichotomy m n with h | h | h
  · rw [cmpI_gt h, cmpZ_gt (by omega)]
  · subst h; rw [cmpI_eq, cmpZ_eq]
  · rw [cmpI_lt h, cmpZ_lt (by omega)]


end Go.Proofs.YtenmogmdijnlhaaDoor

namespace Go.Proofs.YtenmogmdijnlhaaDoor
open Go.RowKit

abbrev Fits (z : Int) : Prop := -9223372036854775808 ≤ z ∧ z < 9223372036854775808
def smallOf (z : Int) : Ending := .returned (.tuple #[.int .i64 (if Fits z then z else 0), .bool (decide (Fits z))])

end Go.Proofs.YtenmogmdijnlhaaDoor

namespace Go.Proofs.YtenmogmdijnlhaaDoor
open Go.RowKit

/-- a list of numbers in memory -/
def Ints (w : World) (v : Value) (zs : List Int) : Prop :=
  ∃ a cap, v = .slice a zs.length cap ∧ zs.length ≤ cap ∧ cap ≤ maxLen ∧ (zs ≠ [] → ∃ b off, a = some ⟨b, off, none⟩ ∧
    ∀ i, i < zs.length → ∃ s m c n, w.cell? ⟨b, off + i * 2, none⟩ = some (.bool s) ∧ w.cell? ⟨b, off + i * 2 + 1, none⟩ = some (.slice m n c) ∧ IntAt w (.agg #[.bool s, .slice m n c]) (zs.getD i 0))

theorem Ints.below {w w' : World} {v : Value} {zs : List Int} (h : Ints w v zs) (hb : Below w.heap.size w w') : Ints w' v zs := by
  obtain ⟨a, cap, rfl, h1, h2, h3⟩ := h
  refine ⟨a, cap, rfl, h1, h2, fun hx => ?_⟩
  obtain ⟨b, off, rfl, hc⟩ := h3 hx
  refine ⟨b, off, rfl, fun i hi => ?_⟩
  obtain ⟨s, m, c, n, k1, k2, k3⟩ := hc i hi
  exact ⟨s, m, c, n, (hb.cell (World.block_lt_of_cell? w _ k1)).trans k1, (hb.cell (World.block_lt_of_cell? w _ k2)).trans k2, k3.below hb⟩
theorem Ints.drew {w : World} {v : Value} {zs : List Int} (h : Ints w v zs) : Ints w.drew v zs := h
theorem Ints.nil (w : World) : Ints w (.slice none 0 0) [] := ⟨none, 0, rfl, Nat.le_refl _, Nat.zero_le _, fun h => absurd rfl h⟩

/-- the first k of a list, one behind the other -/
def accZ (f : Int → Int → Int) (z : Int) (zs : List Int) : Nat → Int
  | 0 => z
  | k + 1 => f (accZ f z zs k) (zs.getD k 0)

end Go.Proofs.YtenmogmdijnlhaaDoor

namespace Go.Proofs.YtenmogmdijnlhaaDoor
open Go.RowKit


end Go.Proofs.YtenmogmdijnlhaaDoor

namespace Go.Proofs.YtenmogmdijnlhaaDoor
open Go.RowKit

/-- a variable of the walk: its block, its cells, the number that they say -/
structure Var (w : World) (g : Nat) (s : Bool) (m : Option Addr) (n c : Nat) (z : Int) : Prop where
  box : Box w g (.bool s) (.slice m n c)
  int : IntAt w (.agg #[.bool s, .slice m n c]) z
theorem Var.step {w w' : World} {g : Nat} {s : Bool} {m : Option Addr} {n c : Nat} {z : Int} (h : Var w g s m n c z) (hb : Below w.heap.size w w') : Var w' g s m n c z := ⟨h.box.step hb, h.int.below hb⟩
theorem Var.drew {w : World} {g : Nat} {s : Bool} {m : Option Addr} {n c : Nat} {z : Int} (h : Var w g s m n c z) : Var w.drew g s m n c z := ⟨h.box.drew, h.int.drew⟩
theorem Var.keep {w : World} {g B : Nat} {s : Bool} {m : Option Addr} {n c : Nat} {z : Int} {x y : Value} (h : Var w g s m n c z) (hX : Box w B x y) (hx : ∀ z, x ≠ .int .u32 z) (hy : ∀ z, y ≠ .int .u32 z) (hne : B ≠ g) (x' y' : Value) : Var ((w.setCell ⟨B, 0, none⟩ x').setCell ⟨B, 1, none⟩ y') g s m n c z :=
  ⟨(h.box.set_ne hne _).set_ne hne _, h.int.keep (hX.keeps hx hy _ _)⟩
/-- a number that is laid down in a new variable -/
theorem IntAt.var {w : World} {s : Bool} {m : Option Addr} {n c : Nat} {z : Int} (h : IntAt w (.agg #[.bool s, .slice m n c]) z) : Var (w.alloc (.cells #[.bool s, .slice m n c] 58)) w.heap.size s m n c z := ⟨Box.new _ _ _, h.below (below_alloc _ _)⟩

/-- of so many limbs at most -/
def SzI (k : Nat) (z : Int) : Prop := z.natAbs < BB ^ k
theorem SzI.mono {j k : Nat} {z : Int} (h : SzI j z) (hl : j ≤ k) : SzI k z := Nat.lt_of_lt_of_le h (Nat.pow_le_pow_right (by decide) hl)
theorem SzI.len {k : Nat} {z : Int} (h : SzI k z) (hk : k ≤ 1000000000) : (lim z.natAbs).length ≤ 1000000000 := Nat.le_trans (lim_length_le h) hk
theorem SzI.add {j k : Nat} {x y : Int} (h : SzI j x) (h' : SzI k y) : SzI (max j k + 1) (x + y) := by
  have h1 : x.natAbs < BB ^ max j k := h.mono (Nat.le_max_left _ _)
  have h2 : y.natAbs < BB ^ max j k := h'.mono (Nat.le_max_right _ _)
  unfold SzI
  rw [Nat.pow_succ]
  have : BB ^ max j k * 2 ≤ BB ^ max j k * BB := Nat.mul_le_mul_left _ (by decide)
  omega
theorem SzI.neg {k : Nat} {x : Int} (h : SzI k x) : SzI k (-x) := by unfold SzI at *; rwa [neg_abs]
theorem SzI.sub {j k : Nat} {x y : Int} (h : SzI j x) (h' : SzI k y) : SzI (max j k + 1) (x - y) := by
  rw [Int.sub_eq_add_neg]; exact h.add h'.neg
theorem SzI.zero : SzI 0 0 := by unfold SzI; decide
theorem SzI.one : SzI 1 1 := by unfold SzI; decide
theorem SzI.of {b : Bool} {xs : List Nat} {k : Nat} (h : Ok xs) (hl : xs.length ≤ k) : SzI k (sg b (val xs)) := by
  unfold SzI; rw [sg_abs]
  exact Nat.lt_of_lt_of_le (val_lt h) (Nat.pow_le_pow_right (by decide) hl)


theorem nboxes2 (t : TypeId) (w : World) (x y x' y' : Value) : Box2 ((w.alloc (.cells #[x, y] t)).alloc (.cells #[x', y'] t)) w.heap.size t x y ∧ Box2 ((w.alloc (.cells #[x, y] t)).alloc (.cells #[x', y'] t)) (w.heap.size + 1) t x' y' ∧ Below w.heap.size w ((w.alloc (.cells #[x, y] t)).alloc (.cells #[x', y'] t)) :=
  ⟨(Box2.new _ _ _ _).step (below_alloc _ _), by have := Box2.new (w.alloc (.cells #[x, y] t)) t x' y'; rwa [World.size_alloc] at this, (below_alloc _ _).trans ((below_alloc _ _).mono (by simp))⟩
theorem nboxes3 (t : TypeId) (w : World) (x y x' y' x'' y'' : Value) : Box2 (((w.alloc (.cells #[x, y] t)).alloc (.cells #[x', y'] t)).alloc (.cells #[x'', y''] t)) w.heap.size t x y ∧ Box2 (((w.alloc (.cells #[x, y] t)).alloc (.cells #[x', y'] t)).alloc (.cells #[x'', y''] t)) (w.heap.size + 1) t x' y' ∧
    Box2 (((w.alloc (.cells #[x, y] t)).alloc (.cells #[x', y'] t)).alloc (.cells #[x'', y''] t)) (w.heap.size + 1 + 1) t x'' y'' ∧ Below w.heap.size w (((w.alloc (.cells #[x, y] t)).alloc (.cells #[x', y'] t)).alloc (.cells #[x'', y''] t)) :=
  ⟨(nboxes2 t w x y x' y').1.step (below_alloc _ _), (nboxes2 t w x y x' y').2.1.step (below_alloc _ _), by have := Box2.new ((w.alloc (.cells #[x, y] t)).alloc (.cells #[x', y'] t)) t x'' y''; rwa [World.size_alloc, World.size_alloc] at this, (nboxes2 t w x y x' y').2.2.trans ((below_alloc _ _).mono (by simp; omega))⟩

end Go.Proofs.YtenmogmdijnlhaaDoor
