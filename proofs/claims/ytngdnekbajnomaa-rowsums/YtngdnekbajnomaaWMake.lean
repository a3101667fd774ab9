/- row's noughts, Zero, Unit, lead, IsZero. -/
import Derived.Test.YtngdnekbajnomaaWReck
import Derived.Test.YtngdnekbajnomaaIOps
namespace Go.Proofs.Ytngdnekbajnomaa
open Go.RowKit

theorem map_nought (n : Nat) : (List.range n).map (fun _ => (0 : Int)) = List.replicate n 0 := by
  apply List.ext_getElem
  · simp
  · intro i h1 h2; simp



/-- the sign of the first number that is not 0 -/
def leadI : List Int → Int
  | [] => 0
  | z :: r => if z = 0 then leadI r else sgnI z
theorem lead_drop {zs : List Int} {k : Nat} (h : k < zs.length) : leadI (zs.drop k) = if zs.getD k 0 = 0 then leadI (zs.drop (k + 1)) else sgnI (zs.getD k 0) := by
  rw [List.drop_eq_getElem_cons h]
  have e : zs.getD k 0 = zs[k] := by simp [h]
  rw [e]
  rfl
theorem lead_noughts (n : Nat) : leadI (List.replicate n 0) = 0 := by
  induction n with
  | zero => rfl
  | succ n ih => rw [List.replicate_succ]; show (if (0 : Int) = 0 then _ else _) = _; rw [if_pos rfl, ih]
theorem lead_unit : ∀ (n k : Nat), k < n → leadI ((List.replicate n 0).set k 1) = 1
  | n + 1, 0, _ => by rw [List.replicate_succ]; rfl
  | n + 1, k + 1, h => by
    rw [List.replicate_succ, List.set_cons_succ]
    show (if (0 : Int) = 0 then _ else _) = _
    rw [if_pos rfl]
    exact lead_unit n k (by omega)
theorem sgnI_ne0 {z : Int} (h : z ≠ 0) : (sgnI z == 0) = false := by rw [beq_eq_false_iff_ne]; unfold sgnI; split <;> (try split) <;> omega


end Go.Proofs.Ytngdnekbajnomaa
