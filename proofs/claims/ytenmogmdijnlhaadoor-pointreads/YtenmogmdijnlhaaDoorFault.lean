/- limb.fault: the place of the first byte with which a text is no number's text. -/
import Derived.Test.YtenmogmdijnlhaaDoorNum
import Derived.Test.YtenmogmdijnlhaaDoorMem
import Derived.OpenShut
import Derived.Test.YtenmogmdijnlhaaDoorMul
import Derived.Test.YtenmogmdijnlhaaDoorTimes
namespace Go.Proofs.YtenmogmdijnlhaaDoor
end Go.Proofs.YtenmogmdijnlhaaDoor

namespace Go.Proofs.YtenmogmdijnlhaaDoor
open Go.RowKit

/-- a slice of integers that came in -/
def IsRow (k : IntKind) (w : World) (a : Option Addr) (len cap : Nat) (zs : List Int) : Prop :=
  (a = none ∧ len = 0 ∧ cap = 0 ∧ zs = []) ∨
  ∃ x, a = some x ∧ len ≤ cap ∧ cap ≤ maxLen ∧ zs.length = cap ∧ (∀ i, i < zs.length → w.cell? (x.add i) = some (.int k (zs.getD i 0))) ∧ ∀ n ∈ zs, (Lit.int k n).wf = true

end Go.Proofs.YtenmogmdijnlhaaDoor

namespace Go.Proofs.YtenmogmdijnlhaaDoor
open Go.RowKit

/-- since w0 nothing that was there has turned, and these values read as these limbs -/
structure St (w0 w : World) (l : List (Value × List Nat)) : Prop where
  below : Below w0.heap.size w0 w
  live : ∀ p ∈ l, Nums w p.1 p.2

theorem St.start {w : World} : St w w [] := ⟨Below.refl _ _, fun _ h => by cases h⟩
theorem St.step {w0 w w' : World} {l : List (Value × List Nat)} (h : St w0 w l) (hb : Below w.heap.size w w') : St w0 w' l :=
  ⟨h.below.trans (hb.mono h.below.size), fun p hp => (h.live p hp).below hb⟩
theorem St.alloc {w0 w : World} {l : List (Value × List Nat)} (h : St w0 w l) (o : Obj) : St w0 (w.alloc o) l := h.step (below_alloc w o)
theorem St.drew {w0 w : World} {l : List (Value × List Nat)} (h : St w0 w l) : St w0 w.drew l := h.step (Below.refl _ w).drew
theorem St.drewN {w0 w : World} {l : List (Value × List Nat)} (h : St w0 w l) (n : Nat) : St w0 (w.drewN n) l := h.step (below_drewN (Below.refl _ w) n)
theorem St.get {w0 w : World} {l : List (Value × List Nat)} (h : St w0 w l) {v : Value} {xs : List Nat} (hm : (v, xs) ∈ l) : Nums w v xs := h.live _ hm

/-- of so many limbs at most -/
def Sz (k n : Nat) : Prop := n < BB ^ k
theorem Sz.of {xs : List Nat} {k : Nat} (h : Ok xs) (hl : xs.length ≤ k) : Sz k (val xs) :=
  Nat.lt_of_lt_of_le (val_lt h) (Nat.pow_le_pow_right (by decide) hl)
theorem Sz.mono {j k n : Nat} (h : Sz j n) (hl : j ≤ k) : Sz k n := Nat.lt_of_lt_of_le h (Nat.pow_le_pow_right (by decide) hl)
theorem Sz.add {k m n : Nat} (h : Sz k m) (h' : Sz k n) : Sz (k + 1) (m + n) := by
  unfold Sz at *; rw [Nat.pow_succ]; have : BB ^ k * 2 ≤ BB ^ k * BB := Nat.mul_le_mul_left _ (by decide); omega
theorem Sz.len {k n : Nat} (h : Sz k n) : (lim n).length ≤ k := lim_length_le h

end Go.Proofs.YtenmogmdijnlhaaDoor

namespace Go.Proofs.YtenmogmdijnlhaaDoor
open Go.RowKit

/-- a text's byte -/
def bt (s : ByteArray) (i : Nat) : Nat := if h : i < s.size then s[i].toNat else 0
theorem bt_get (s : ByteArray) (i : Nat) (h : i < s.size) : s[i].toNat = bt s i := by unfold bt; rw [dif_pos h]
/-- nothing wrong at this place -/
structure Fine (s : ByteArray) (i : Nat) : Prop where
  lo : 48 ≤ bt s i
  hi : bt s i ≤ 57
  lead : 1 ≤ i → bt s 0 ≠ 48
/-- nothing wrong up to this place -/
def Good (s : ByteArray) (i : Nat) : Prop := ∀ j, j < i → Fine s j
theorem Good.zero (s : ByteArray) : Good s 0 := fun j h => absurd h (by omega)
theorem Good.succ {s : ByteArray} {i : Nat} (h : Good s i) (f : Fine s i) : Good s (i + 1) := by
  intro j hj
  rcases Nat.lt_succ_iff_lt_or_eq.1 hj with h1 | rfl
  · exact h j h1
  · exact f
theorem Good.only {s : ByteArray} {i j : Nat} (h : Good s i) (b : ¬ Fine s i) (h' : Good s j) (b' : ¬ Fine s j) : i = j := by
  rcases Nat.lt_trichotomy i j with l | e | l
  · exact absurd (h' i l) b
  · exact e
  · exact absurd (h j l) b'

end Go.Proofs.YtenmogmdijnlhaaDoor
