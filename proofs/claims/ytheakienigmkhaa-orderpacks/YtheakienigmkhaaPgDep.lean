/- Depths: prog.deepest, prog.Depth; what the depth of a program is, in plain words. -/
import Derived.Test.YtheakienigmkhaaPgRSame
import Derived.Test.YtheakienigmkhaaPgCopy
import Derived.Test.YtheakienigmkhaaPgChecksWalk
import Derived.OwnWalk
namespace Go.Proofs.Ytheakienigmkhaa
open Go.RowKit

/-- the greatest depth of some registers -/
def dmax (d : Int → Int) : List Int → Int
  | [] => 0
  | r :: l => max (d r) (dmax d l)
def dstep (d : Int → Int) (i : Ins) : Int → Int := fun r => if r = i.to then 1 + dmax d (asksL i) else d r
def drun (d : Int → Int) : List Ins → Int → Int
  | [] => d
  | i :: l => drun (dstep d i) l
def dep (p : Pg) : Int := dmax (drun (fun _ => 0) p.code) p.outs
theorem drun_append (l m : List Ins) : ∀ d, drun d (l ++ m) = drun (drun d l) m := by
  induction l with
  | nil => intro d; rfl
  | cons i l ih => intro d; exact ih _
/-- depths in a list -/
def dAt (L : List Int) (r : Int) : Int := ot L r.toNat
theorem dmax_congr {d e : Int → Int} {l : List Int} (h : ∀ r ∈ l, d r = e r) : dmax d l = dmax e l := by
  induction l with
  | nil => rfl
  | cons r l ih => simp only [dmax]; rw [h r (by simp), ih (fun r hr => h r (by simp [hr]))]
theorem dmax_nonneg {d : Int → Int} {l : List Int} : 0 ≤ dmax d l := by
  induction l with
  | nil => exact Int.le_refl _
  | cons r l ih => simp only [dmax]; omega
theorem dmax_le {d : Int → Int} {l : List Int} {b : Int} (hb : 0 ≤ b) (h : ∀ r ∈ l, d r ≤ b) : dmax d l ≤ b := by
  induction l with
  | nil => exact hb
  | cons r l ih => simp only [dmax]; have := h r (by simp); have := ih (fun r hr => h r (by simp [hr])); omega
theorem le_dmax {d : Int → Int} {l : List Int} {r : Int} (h : r ∈ l) : d r ≤ dmax d l := by
  induction l with
  | nil => cases h
  | cons s l ih =>
    simp only [dmax]
    rcases List.mem_cons.1 h with rfl | h
    · omega
    · have := ih h; omega
/-- the first k taken, the greatest so far -/
theorem dmax_take_succ (d : Int → Int) (l : List Int) (k : Nat) (h : k < l.length) : dmax d (l.take (k + 1)) = max (dmax d (l.take k)) (d (ot l k)) := by
  induction l generalizing k with
  | nil => simp at h
  | cons r l ih =>
    cases k with
    | zero => simp [dmax, ot]; exact Int.max_comm _ _
    | succ k =>
      have := ih k (by simpa using h)
      have e : ot (r :: l) (k + 1) = ot l k := by unfold ot; simp
      rw [List.take_succ_cons, List.take_succ_cons, e]
      simp only [dmax]
      rw [this]
      omega

end Go.Proofs.Ytheakienigmkhaa
