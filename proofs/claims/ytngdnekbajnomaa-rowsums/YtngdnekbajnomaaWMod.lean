/- Rows as a module: what the laws on rows come to. Nothing of the program. -/
import Derived.Test.YtngdnekbajnomaaWOne
import Derived.Test.YtngdnekbajnomaaWDot
import Derived.Test.YtngdnekbajnomaaCalmL
import Derived.Deep.Cut
import Derived.Test.YtngdnekbajnomaaWCmp
import Derived.Test.YtngdnekbajnomaaWLong
namespace Go.Proofs.Ytngdnekbajnomaa
open Go.RowKit

theorem getD_map (f : Nat → Int) (n i : Nat) : ((List.range n).map f).getD i 0 = if i < n then f i else 0 := by
  by_cases h : i < n
  · rw [if_pos h]; simp [h]
  · rw [if_neg h]; simp [h]
theorem getD_over {xs : List Int} {i : Nat} (h : xs.length ≤ i) : xs.getD i 0 = 0 := by rw [List.getD_eq_getElem?_getD, List.getElem?_eq_none h]; rfl
theorem list_ext {xs ys : List Int} (hl : xs.length = ys.length) (h : ∀ i, i < xs.length → xs.getD i 0 = ys.getD i 0) : xs = ys := by
  apply List.ext_getElem hl
  intro i h1 h2
  have := h i h1
  simpa [h1, h2] using this
def scL (xs : List Int) (z : Int) : List Int := (List.range xs.length).map fun i => xs.getD i 0 * z
def adL (xs ys : List Int) : List Int := (List.range xs.length).map fun i => xs.getD i 0 + ys.getD i 0
def cbL (c : Int) (xs : List Int) (d : Int) (ys : List Int) : List Int := (List.range xs.length).map fun i => c * xs.getD i 0 + d * ys.getD i 0
def dotL (xs ys : List Int) : Int := accZ (· + ·) 0 ((List.range xs.length).map fun i => xs.getD i 0 * ys.getD i 0) xs.length
theorem scL_len (xs : List Int) (z : Int) : (scL xs z).length = xs.length := by simp [scL]
theorem adL_len (xs ys : List Int) : (adL xs ys).length = xs.length := by simp [adL]
theorem cbL_len (c d : Int) (xs ys : List Int) : (cbL c xs d ys).length = xs.length := by simp [cbL]
theorem scL_at (xs : List Int) (z : Int) (i : Nat) : (scL xs z).getD i 0 = xs.getD i 0 * z := by
  unfold scL; rw [getD_map]; split
  · rfl
  · rw [getD_over (by omega), Int.zero_mul]
theorem adL_at {xs ys : List Int} (hl : ys.length = xs.length) (i : Nat) : (adL xs ys).getD i 0 = xs.getD i 0 + ys.getD i 0 := by
  unfold adL; rw [getD_map]; split
  · rfl
  · rw [getD_over (xs := xs) (by omega), getD_over (xs := ys) (by omega)]; rfl
theorem cbL_at {c d : Int} {xs ys : List Int} (hl : ys.length = xs.length) (i : Nat) : (cbL c xs d ys).getD i 0 = c * xs.getD i 0 + d * ys.getD i 0 := by
  unfold cbL; rw [getD_map]; split
  · rfl
  · rw [getD_over (xs := xs) (by omega), getD_over (xs := ys) (by omega)]; simp
theorem cmpL_self : ∀ (xs : List Int), cmpL xs xs = 0
  | [] => rfl
  | x :: r => by show (if x = x then cmpL r r else cmpZ x x) = 0; rw [if_pos rfl]; exact cmpL_self r
theorem rowCmp_self {xs ys : List Int} (h : xs = ys) : (rowCmp xs ys == 0) = true := by subst h; unfold rowCmp; rw [if_pos rfl, cmpL_self]; rfl
theorem scale_add {xs ys : List Int} (hl : ys.length = xs.length) (m : Int) : scL (adL xs ys) m = adL (scL xs m) (scL ys m) := by
  refine list_ext (by rw [scL_len, adL_len, adL_len, scL_len]) fun i _ => ?_
  rw [scL_at, adL_at hl, adL_at (by rw [scL_len, scL_len]; exact hl), scL_at, scL_at, Int.add_mul]
theorem dot_at (xs ys : List Int) (n i : Nat) (h : xs.length = n) : ((List.range n).map fun i => xs.getD i 0 * ys.getD i 0).getD i 0 = xs.getD i 0 * ys.getD i 0 := by
  rw [getD_map]; split
  · rfl
  · rw [getD_over (xs := xs) (by omega), Int.zero_mul]
theorem dot_comb {xs ys : List Int} (hl : ys.length = xs.length) (c d : Int) : dotL (cbL c xs d ys) ys = c * dotL xs ys + d * dotL ys ys := by
  unfold dotL
  rw [cbL_len, hl]
  generalize hn : xs.length = n at *
  have key : ∀ k, accZ (· + ·) 0 ((List.range n).map fun i => (cbL c xs d ys).getD i 0 * ys.getD i 0) k = c * accZ (· + ·) 0 ((List.range n).map fun i => xs.getD i 0 * ys.getD i 0) k + d * accZ (· + ·) 0 ((List.range n).map fun i => ys.getD i 0 * ys.getD i 0) k := by
    intro k
    induction k with
    | zero => simp [accZ]
    | succ k ih =>
      simp only [accZ]
      rw [ih, dot_at _ ys n k (by rw [cbL_len]; exact hn), dot_at _ ys n k hn, dot_at _ ys n k hl, cbL_at (by omega)]
      grind
  exact key n

theorem SzL.mono {j k : Nat} {xs : List Int} (h : SzL j xs) (hl : j ≤ k) : SzL k xs := fun i => (h i).mono hl
theorem SzL.scale {j k : Nat} {xs : List Int} {z : Int} (h : SzL j xs) (hz : SzI k z) : SzL (j + k) (scL xs z) := fun i => by rw [scL_at]; exact (h i).mul hz
theorem SzL.add {k : Nat} {xs ys : List Int} (hl : ys.length = xs.length) (h : SzL k xs) (h' : SzL k ys) : SzL (k + 1) (adL xs ys) := fun i => by rw [adL_at hl]; exact ((h i).add (h' i)).mono (by omega)
theorem SzL.comb {j k : Nat} {xs ys : List Int} {c d : Int} (hl : ys.length = xs.length) (h : SzL k xs) (h' : SzL k ys) (hc : SzI j c) (hd : SzI j d) : SzL (j + k + 1) (cbL c xs d ys) := fun i => by rw [cbL_at hl]; exact ((hc.mul (h i)).add (hd.mul (h' i))).mono (by omega)
theorem SzL.dots {j k : Nat} {xs ys : List Int} (h : SzL j xs) (h' : SzL k ys) : SzL (j + k) ((List.range xs.length).map fun i => xs.getD i 0 * ys.getD i 0) := fun i => by rw [dot_at xs ys _ i rfl]; exact (h i).mul (h' i)
theorem accZ_over (L : List Int) : ∀ k, accZ (· + ·) 0 L (L.length + k) = accZ (· + ·) 0 L L.length
  | 0 => rfl
  | k + 1 => by
    show accZ (· + ·) 0 L (L.length + k) + L.getD (L.length + k) 0 = _
    rw [accZ_over L k, getD_over (by omega), Int.add_zero]
theorem accZ_sz0 {T : Nat} {L : List Int} (h : SzL T L) : ∀ i, SzI (T + i) (accZ (· + ·) 0 L i)
  | 0 => SzI.zero.mono (by omega)
  | i + 1 => ((accZ_sz0 h i).add (h i)).mono (by omega)
theorem accZ_sz {T : Nat} {L : List Int} (h : SzL T L) (i : Nat) : SzI (T + L.length) (accZ (· + ·) 0 L i) := by
  rcases Nat.le_total i L.length with hi | hi
  · exact (accZ_sz0 h i).mono (by omega)
  · have e : i = L.length + (i - L.length) := by omega
    rw [e, accZ_over]; exact accZ_sz0 h _
theorem dot_sz {j k n : Nat} {xs ys : List Int} (h : SzL j xs) (h' : SzL k ys) (hn : xs.length ≤ n) (i : Nat) : SzI (j + k + n) (accZ (· + ·) 0 ((List.range xs.length).map fun i => xs.getD i 0 * ys.getD i 0) i) :=
  (accZ_sz (h.dots h') i).mono (by simp; omega)
theorem dotL_sz {j k n : Nat} {xs ys : List Int} (h : SzL j xs) (h' : SzL k ys) (hn : xs.length ≤ n) : SzI (j + k + n) (dotL xs ys) := dot_sz h h' hn _
theorem numsZ_sz {w : World} {a : Option Addr} {n cap : Nat} {ns : List (Bool × List Nat)} (hA : NumL w (.slice a n cap) ns) (h : Few ns) : SzL 300 (numsZ ns) := by
  intro i
  have e : (numsZ ns).getD i 0 = sg (ns.getD i (false, [])).1 (val (ns.getD i (false, [])).2) := by
    unfold numsZ
    rw [List.getD_eq_getElem?_getD, List.getElem?_map, List.getD_eq_getElem?_getD]
    cases ns[i]? with
    | none => rfl
    | some p => rfl
  rw [e]
  rcases Nat.lt_or_ge i ns.length with hi | hi
  · obtain ⟨_, _, _, s, m, l, c, xs, _, _, k3, k4⟩ := hA.at hi
    have hl := h.2 i hi
    rw [k4] at hl ⊢
    exact SzI.of k3.ok hl
  · rw [List.getD_eq_getElem?_getD, List.getElem?_eq_none hi]; exact SzI.zero.mono (by omega)
end Go.Proofs.Ytngdnekbajnomaa
