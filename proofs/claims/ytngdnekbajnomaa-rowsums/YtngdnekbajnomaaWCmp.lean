/- row's Cmp, Same, Widest. -/
import Derived.Test.YtngdnekbajnomaaWMake
import Derived.Test.YtngdnekbajnomaaIOf
namespace Go.Proofs.Ytngdnekbajnomaa
open Go.RowKit

/-- two rows that are as long as each other, held against each other -/
def cmpL : List Int → List Int → Int
  | x :: r, y :: q => if x = y then cmpL r q else cmpZ x y
  | _, _ => 0
theorem cmpL_drop {xs ys : List Int} {k : Nat} (h : k < xs.length) (h' : k < ys.length) : cmpL (xs.drop k) (ys.drop k) = if xs.getD k 0 = ys.getD k 0 then cmpL (xs.drop (k + 1)) (ys.drop (k + 1)) else cmpZ (xs.getD k 0) (ys.getD k 0) := by
  rw [List.drop_eq_getElem_cons h, List.drop_eq_getElem_cons h']
  have e : xs.getD k 0 = xs[k] := by simp [h]
  have e' : ys.getD k 0 = ys[k] := by simp [h']
  rw [e, e']
  rfl
theorem cmpZ_self (x : Int) : cmpZ x x = 0 := by unfold cmpZ; rw [if_neg (by omega), if_pos rfl]
theorem cmpZ_nz {x y : Int} (h : x ≠ y) : (cmpZ x y == 0) = false := by rw [beq_eq_false_iff_ne]; unfold cmpZ; split <;> (try split) <;> omega


/-- what Cmp says of two rows -/
def rowCmp (xs ys : List Int) : Int := if xs.length = ys.length then cmpL xs ys else if xs.length < ys.length then -1 else 1


end Go.Proofs.Ytngdnekbajnomaa
