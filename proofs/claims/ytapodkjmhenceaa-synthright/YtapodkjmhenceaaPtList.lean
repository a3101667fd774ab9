/- Lists of points in memory; two points that are one; points as keys. -/
import Derived.Test.YtapodkjmhenceaaPtMath
import Derived.Maps.OwnSet
import Derived.Maps.OwnOps
import Derived.Maps.Views
import Derived.DeepKeys4
namespace Go.Proofs.Ytapodkjmhenceaa
open Go.RowKit

/-- an operation whose guard is false -/
theorem Calm.skipP {P : Program} {md : Region.Mode} {ops : Array Oper} {Q : Exit → Act → World → Prop} {F : World → Prop} {pend : Nat → Bool} {i : Nat} {oi : Oper} {fuel : Nat} {listed : Array Bool} {a : Act} {w : World} (hi : ops[i]? = some oi) (hs : Region.noSelect ops = true) (hw : Waits md ops pend i = true) (hf : Region.free md ops listed i = true)
    (hr : (Region.ready md ops listed).contains i = true) (hQ : ∀ c a w, Q (.panic c) (a.put oi.dst undef) w → Q (.panic c) a w) (hF : F w) (hg : Region.wanted oi (yielded ops a.tmps) = false)
    {l' : Array Bool} (hl : listed.setIfInBounds i true = l') {d : Option Tmp} (hd : oi.dst = d) {a' : Act} (ha : a.put d undef = a') (h : Calm P md ops Q F pend fuel l' a' w) : Calm P md ops Q F pend (fuel + 1) listed a w := by
  subst hl; subst hd; subst ha
  exact Calm.first hi hs hw hQ fuel listed a w (Region.free_spec hi hf) (by simpa using hr) hF (.inr ⟨hg, rfl⟩) h
/-- two cells of a list hold a point -/
structure PtC (w : World) (b o : Nat) (x y : Int) : Prop where
  cell0 : w.cell? ⟨b, o, none⟩ = some (.int .i64 x)
  cell1 : w.cell? ⟨b, o + 1, none⟩ = some (.int .i64 y)
theorem PtC.step {w w' : World} {b o : Nat} {x y : Int} (h : PtC w b o x y) (hb : Below w.heap.size w w') : PtC w' b o x y :=
  ⟨(hb.cell (World.block_lt_of_cell? w _ h.cell0)).trans h.cell0, (hb.cell (World.block_lt_of_cell? w _ h.cell1)).trans h.cell1⟩
theorem PtC.drew {w : World} {b o : Nat} {x y : Int} (h : PtC w b o x y) : PtC w.drew b o x y := ⟨h.cell0, h.cell1⟩

def pA (ps : List (Int × Int)) (i : Nat) : Int := (ps.getD i (0, 0)).1
def pB (ps : List (Int × Int)) (i : Nat) : Int := (ps.getD i (0, 0)).2

/-- a list of points -/
def PtsAt (w : World) (v : Value) (ps : List (Int × Int)) : Prop :=
  ∃ a cap, v = .slice a ps.length cap ∧ ps.length ≤ cap ∧ cap ≤ maxLen ∧ (ps ≠ [] → ∃ b off, a = some ⟨b, off, none⟩ ∧ ∀ i, i < ps.length → PtC w b (off + i * 2) (pA ps i) (pB ps i))
theorem PtsAt.below {w w' : World} {v : Value} {ps : List (Int × Int)} (h : PtsAt w v ps) (hb : Below w.heap.size w w') : PtsAt w' v ps := by
  obtain ⟨a, cap, h1, h2, h3, h4⟩ := h
  refine ⟨a, cap, h1, h2, h3, fun hne => ?_⟩
  obtain ⟨b, off, e, hc⟩ := h4 hne
  exact ⟨b, off, e, fun i hi => (hc i hi).step hb⟩
theorem PtsAt.cases {w : World} {v : Value} {ps : List (Int × Int)} (h : PtsAt w v ps) :
    (ps = [] ∧ ∃ a cap, v = .slice a 0 cap ∧ cap ≤ maxLen) ∨ (0 < ps.length ∧ ∃ b off cap, v = .slice (some ⟨b, off, none⟩) ps.length cap ∧ ps.length ≤ cap ∧ cap ≤ maxLen ∧ ∀ i, i < ps.length → PtC w b (off + i * 2) (pA ps i) (pB ps i)) := by
  obtain ⟨a, cap, rfl, h1, h2, h3⟩ := h
  cases ps with
  | nil => exact .inl ⟨rfl, a, cap, rfl, h2⟩
  | cons x xs =>
    obtain ⟨b, off, rfl, hc⟩ := h3 (by simp)
    exact .inr ⟨by simp, b, off, cap, rfl, h1, h2, hc⟩

/-- the points i and j of a list are in, and one -/
def twB (ps : List (Int × Int)) (i j : Nat) : Bool := inB (pA ps i) (pB ps i) && inB (pA ps j) (pB ps j) && oneB (pA ps i) (pB ps i) (pA ps j) (pB ps j)
/-- the first two that are one -/
def TwAns (ps : List (Int × Int)) (i j : Nat) (ok : Bool) : Prop :=
  (ok = true ∧ i < j ∧ j < ps.length ∧ twB ps i j = true ∧ (∀ i' j', i' < j' → j' < j → twB ps i' j' = false) ∧ (∀ i', i' < i → twB ps i' j = false)) ∨
  (ok = false ∧ i = 0 ∧ j = 0 ∧ ∀ i' j', i' < j' → j' < ps.length → twB ps i' j' = false)
theorem TwAns.only {ps : List (Int × Int)} {i j i' j' : Nat} {ok ok' : Bool} (h : TwAns ps i j ok) (h' : TwAns ps i' j' ok') : i = i' ∧ j = j' ∧ ok = ok' := by
  rcases h with ⟨rfl, a1, a2, a3, a4, a5⟩ | ⟨rfl, rfl, rfl, a4⟩
  · rcases h' with ⟨rfl, b1, b2, b3, b4, b5⟩ | ⟨rfl, rfl, rfl, b4⟩
    · have hj : j = j' := by
        rcases Nat.lt_trichotomy j j' with l | e | l
        · rw [b4 i j a1 l] at a3; cases a3
        · exact e
        · rw [a4 i' j' b1 l] at b3; cases b3
      subst hj
      refine ⟨?_, rfl, rfl⟩
      rcases Nat.lt_trichotomy i i' with l | e | l
      · rw [b5 i l] at a3; cases a3
      · exact e
      · rw [a5 i' l] at b3; cases b3
    · rw [b4 i j a1 a2] at a3; cases a3
  · rcases h' with ⟨rfl, b1, b2, b3, _, _⟩ | ⟨rfl, rfl, rfl, _⟩
    · rw [a4 i' j' b1 b2] at b3; cases b3
    · exact ⟨rfl, rfl, rfl⟩

/-! points as keys -/
theorem Try.laidOutP : laidOutB Try.prog = true := by kernel_rfl
theorem Try.ptKeyed : Go.Maps.Keyed Try.prog 61 :=
  Go.Maps.Keyed.of_law (deep_law_laid Try.laidOutP (m := 2) (by omega) (of_decide_eq_true (by kernel_rfl)) (by kernel_rfl) (by rw [Try.underlying61]))
theorem Try.ptKey (a b : Int) (ha : (Lit.int .i64 a).wf = true) (hb : (Lit.int .i64 b).wf = true) : ∃ kl, keyOf Try.prog 61 (.agg #[.int .i64 a, .int .i64 b]) = some kl := by
  have hc : Try.prog.cellsOf 61 = 2 := by kernel_rfl
  have hi : Try.prog.cellsOf 3 = 1 := by kernel_rfl
  have hk : Try.prog.keyType 61 = true := by kernel_rfl
  obtain ⟨m, hm⟩ : ∃ m, Try.prog.types.size = m + 1 := by
    have h0 : 61 < Try.prog.types.size := of_decide_eq_true (by kernel_rfl)
    exact ⟨Try.prog.types.size - 1, by omega⟩
  unfold keyOf
  simp only [Try.underlying61]
  rw [if_pos (by simp [hk, Value.formed, Try.underlying61, hc]), hm]
  unfold Program.keyLits
  simp only [Try.underlying61, Value.cells]
  rw [if_pos ⟨by rw [hc]; rfl, by kernel_rfl⟩]
  simp only [List.mapM_cons, List.mapM_nil, hi]
  simp [Program.keyLits, Try.underlying3, ha, hb]
end Go.Proofs.Ytapodkjmhenceaa
