/- What the walks of the laws share: the lists that are alive, how great numbers get, and a slice that came in. -/
import Derived.Test.YtgkibmigbjjnnaaNum
import Derived.Test.YtgkibmigbjjnnaaMem
import Derived.OpenShut
import Derived.Test.YtgkibmigbjjnnaaMul
namespace Go.Proofs.Ytgkibmigbjjnnaa
end Go.Proofs.Ytgkibmigbjjnnaa

namespace Go.Proofs.Ytgkibmigbjjnnaa
open Go.RowKit

/-- a slice of integers that came in -/
def IsRow (k : IntKind) (w : World) (a : Option Addr) (len cap : Nat) (zs : List Int) : Prop :=
  (a = none ∧ len = 0 ∧ cap = 0 ∧ zs = []) ∨
  ∃ x, a = some x ∧ len ≤ cap ∧ cap ≤ maxLen ∧ zs.length = cap ∧ (∀ i, i < zs.length → w.cell? (x.add i) = some (.int k (zs.getD i 0))) ∧ ∀ n ∈ zs, (Lit.int k n).wf = true

end Go.Proofs.Ytgkibmigbjjnnaa

namespace Go.Proofs.Ytgkibmigbjjnnaa
open Go.RowKit

/-- since w0 nothing that was there has turned, and these values read as these limbs -/
structure St (w0 w : World) (l : List (Value × List Nat)) : Prop where
  below : Below w0.heap.size w0 w
  live : ∀ p ∈ l, Nums w p.1 p.2

theorem St.start {w : World} : St w w [] := ⟨Below.refl _ _, fun _ h => by cases h⟩
theorem St.step {w0 w w' : World} {l : List (Value × List Nat)} (h : St w0 w l) (hb : Below w.heap.size w w') : St w0 w' l :=
  ⟨h.below.trans (hb.mono h.below.size), fun p hp => (h.live p hp).below hb⟩
theorem St.alloc {w0 w : World} {l : List (Value × List Nat)} (h : St w0 w l) (o : Obj) : St w0 (w.alloc o) l := h.step (below_alloc w o)
theorem St.drew {w0 w : World} {l : List (Value × List Nat)} (h : St w0 w l) : St w0 w.drew l := h.step (Below.refl _ w).drew
theorem St.get {w0 w : World} {l : List (Value × List Nat)} (h : St w0 w l) {v : Value} {xs : List Nat} (hm : (v, xs) ∈ l) : Nums w v xs := h.live _ hm

/-- of so many limbs at most -/
def Sz (k n : Nat) : Prop := n < BB ^ k
theorem Sz.of {xs : List Nat} {k : Nat} (h : Ok xs) (hl : xs.length ≤ k) : Sz k (val xs) :=
  Nat.lt_of_lt_of_le (val_lt h) (Nat.pow_le_pow_right (by decide) hl)
theorem Sz.mono {j k n : Nat} (h : Sz j n) (hl : j ≤ k) : Sz k n := Nat.lt_of_lt_of_le h (Nat.pow_le_pow_right (by decide) hl)
theorem Sz.le {k m n : Nat} (h : Sz k n) (hl : m ≤ n) : Sz k m := Nat.lt_of_le_of_lt hl h
theorem Sz.add {k m n : Nat} (h : Sz k m) (h' : Sz k n) : Sz (k + 1) (m + n) := by
  unfold Sz at *; rw [Nat.pow_succ]; have : BB ^ k * 2 ≤ BB ^ k * BB := Nat.mul_le_mul_left _ (by decide); omega
theorem Sz.mul {j k m n : Nat} (h : Sz j m) (h' : Sz k n) : Sz (j + k) (m * n) := by
  unfold Sz at *; rw [Nat.pow_add]
  exact Nat.mul_lt_mul_of_lt_of_le h (Nat.le_of_lt h') (Nat.pow_pos (by decide))
theorem Sz.len {k n : Nat} (h : Sz k n) : (lim n).length ≤ k := lim_length_le h

end Go.Proofs.Ytgkibmigbjjnnaa
