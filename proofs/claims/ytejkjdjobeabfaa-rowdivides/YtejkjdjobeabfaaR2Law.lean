/- A variable that holds a number of the document's; how many digits numbers have; integer.Int's Times. -/
import Derived.Test.YtejkjdjobeabfaaR2Mul
namespace Go.Proofs.Ytejkjdjobeabfaa
open Go.RowKit

structure RVar (w : World) (g : Nat) (s : Bool) (m : Option Addr) (n c : Nat) (z : Int) : Prop where
  box : Box2 w g 39 (.bool s) (.slice m n c)
  int : RInt w (.agg #[.bool s, .slice m n c]) z
theorem RVar.step {w w' : World} {g : Nat} {s : Bool} {m : Option Addr} {n c : Nat} {z : Int} (h : RVar w g s m n c z) (hb : Below w.heap.size w w') : RVar w' g s m n c z := ⟨h.box.step hb, h.int.below hb⟩
theorem RVar.drew {w : World} {g : Nat} {s : Bool} {m : Option Addr} {n c : Nat} {z : Int} (h : RVar w g s m n c z) : RVar w.drew g s m n c z := ⟨h.box.drew, h.int.drew⟩
theorem RInt.var {w : World} {s : Bool} {m : Option Addr} {n c : Nat} {z : Int} (h : RInt w (.agg #[.bool s, .slice m n c]) z) : RVar (w.alloc (.cells #[.bool s, .slice m n c] 39)) w.heap.size s m n c z := ⟨Box2.new _ _ _ _, h.below (below_alloc _ _)⟩

theorem SzI.dlen {k : Nat} {z : Int} (h : SzI k z) (hk : 2 * k ≤ 100000000) : (D.lim z.natAbs).length ≤ 100000000 := by
  refine Nat.le_trans (D.lim_length_le (k := 2 * k) ?_) hk
  have : BB ^ k = D.BB ^ (2 * k) := bb_pow k
  unfold SzI at h
  rw [← this]; exact h
theorem SzI.word {c : Int} (hlo : -9223372036854775808 ≤ c) (hhi : c ≤ 9223372036854775807) : SzI 2 c := by
  unfold SzI BB; omega
theorem SzI.abs {k : Nat} {z : Int} (h : SzI k z) : SzI k (z.natAbs : Int) := by
  unfold SzI at *; simpa using h

end Go.Proofs.Ytejkjdjobeabfaa
