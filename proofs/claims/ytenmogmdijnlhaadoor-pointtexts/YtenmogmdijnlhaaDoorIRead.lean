/- integer.Read: the number of a text, or what is wrong with it. -/
import Derived.Test.YtenmogmdijnlhaaDoorFault
import Derived.Test.YtenmogmdijnlhaaDoorRead
import Derived.Test.YtenmogmdijnlhaaDoorCalm3
namespace Go.Proofs.YtenmogmdijnlhaaDoor
open Go.RowKit

/-- the text begins with this byte -/
def hp (s : ByteArray) (c : UInt8) : Bool := decide (0 < s.size ∧ bt s 0 = c.toNat)
/-- the text behind its first byte -/
def rest1 (s : ByteArray) : ByteArray := s.extract 1 s.size

theorem ext1 (s : ByteArray) (h : 0 < s.size) : s.extract 0 1 = ⟨#[s[0]]⟩ := by
  apply ByteArray.ext
  apply Array.ext
  · simp [ByteArray.data_extract]; omega
  · intro i h1 h2
    simp at h2
    subst h2
    simp [ByteArray.data_extract]
    rfl
theorem hp_yes {s : ByteArray} {c : UInt8} (h : hp s c = true) : 0 < s.size ∧ bt s 0 = c.toNat := by simpa [hp] using h
/-- what CutPrefix answers: the text behind the prefix -/
def cutP (s : ByteArray) (c : UInt8) : ByteArray := if hp s c then rest1 s else s

end Go.Proofs.YtenmogmdijnlhaaDoor

namespace Go.Proofs.YtenmogmdijnlhaaDoor
open Go.RowKit

/-- what a text reads as: a number with a sign -/
def IRd (s : ByteArray) (z : Int) (a b : Nat) : Prop :=
  (65536 < s.size ∧ z = 0 ∧ a = 3 ∧ b = 65536) ∨
  (s.size ≤ 65536 ∧ hp s 45 = true ∧ hp (rest1 s) 48 = true ∧ z = 0 ∧ a = 6 ∧ b = 1) ∨
  (s.size ≤ 65536 ∧ ¬ (hp s 45 = true ∧ hp (rest1 s) 48 = true) ∧ ∃ xs a' b', Rd (cutP s 45) xs a' b' ∧
    ((a' ≠ 0 ∧ z = 0 ∧ a = a' ∧ b = b' + (s.size - (cutP s 45).size)) ∨ (a' = 0 ∧ z = sg (hp s 45) (val xs) ∧ a = 0 ∧ b = 0)))

theorem Rd.none {s : ByteArray} {xs : List Nat} {b : Nat} (h : Rd s xs 0 b) : b = 0 := by
  rcases h with ⟨_, _, h, _⟩ | ⟨_, _, h, _⟩ | ⟨_, i, _, _, _, _, h, _⟩ | ⟨_, _, _, _, _, h⟩ <;> omega
theorem Box2.put {W : World} {B : Nat} {t : TypeId} {x y : Value} (h : Box2 W B t x y) (x' y' : Value) : Box2 ((W.setCell ⟨B, 0, none⟩ x').setCell ⟨B, 1, none⟩ y') B t x' y' := (h.set0 _).set1 _
theorem Box2.other {W : World} {B C : Nat} {t : TypeId} {x y : Value} (h : Box2 W B t x y) (hne : C ≠ B) (x' y' : Value) : Box2 ((W.setCell ⟨C, 0, none⟩ x').setCell ⟨C, 1, none⟩ y') B t x y := (h.set_ne hne _).set_ne hne _
theorem Box2.keeps {W : World} {B : Nat} {t : TypeId} {x y : Value} (h : Box2 W B t x y) (hx : ∀ z, x ≠ .int .u32 z) (hy : ∀ z, y ≠ .int .u32 z) (x' y' : Value) : Spares W ((W.setCell ⟨B, 0, none⟩ x').setCell ⟨B, 1, none⟩ y') :=
  (Spares.set h.cell0 hx x').trans (Spares.set (h.set0 x').cell1 hy y')

end Go.Proofs.YtenmogmdijnlhaaDoor
