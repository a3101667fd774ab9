/- What the walks of a seat without limbs begin with. Nothing of the program. -/
import Derived.Test.YtheakienigmkhaaNum
import Derived.Test.YtheakienigmkhaaChecked
import Derived.BigQuiet
import Derived.WalkSmall
import Derived.Deep.QuietTactic
import Derived.Deep.RegionWith
import Derived.Deep.Cut
import Derived.RegionTactic
namespace Go.Proofs.Ytheakienigmkhaa
open Go.RowKit

def Nums (w : World) (v : Value) (xs : List Nat) : Prop :=
  Ok xs ∧ ∃ a cap, v = .slice a xs.length cap ∧ xs.length ≤ cap ∧ cap ≤ maxLen ∧
    (xs ≠ [] → ∃ b off, a = some ⟨b, off, none⟩ ∧ ∀ i, i < xs.length → w.cell? ⟨b, off + i, none⟩ = some (.int .u32 (lm xs i : Nat)))

theorem Nums.ok {w : World} {v : Value} {xs : List Nat} (h : Nums w v xs) : Ok xs := h.1

/-- the two ways of a list -/
theorem Nums.cases {w : World} {v : Value} {xs : List Nat} (h : Nums w v xs) :
    (xs = [] ∧ ∃ a cap, v = .slice a 0 cap ∧ cap ≤ maxLen) ∨
    (0 < xs.length ∧ ∃ b off cap, v = .slice (some ⟨b, off, none⟩) xs.length cap ∧ xs.length ≤ cap ∧ cap ≤ maxLen ∧ b < w.heap.size ∧
      ∀ i, i < xs.length → w.cell? ⟨b, off + i, none⟩ = some (.int .u32 (lm xs i : Nat))) := by
  obtain ⟨_, a, cap, rfl, h1, h2, h3⟩ := h
  cases xs with
  | nil => exact .inl ⟨rfl, a, cap, rfl, h2⟩
  | cons x xs =>
    obtain ⟨b, off, rfl, hc⟩ := h3 (by simp)
    refine .inr ⟨by simp, b, off, cap, rfl, h1, h2, ?_, hc⟩
    exact World.block_lt_of_cell? w _ (hc 0 (by simp))

theorem Nums.nil_mk (w : World) (a : Option Addr) (cap : Nat) (h : cap ≤ maxLen) : Nums w (.slice a 0 cap) [] :=
  ⟨Ok.nil, a, cap, rfl, Nat.zero_le _, h, fun h => absurd rfl h⟩

theorem Nums.mk {w : World} {b off cap : Nat} {xs : List Nat} (ho : Ok xs) (h1 : xs.length ≤ cap) (h2 : cap ≤ maxLen)
    (hc : ∀ i, i < xs.length → w.cell? ⟨b, off + i, none⟩ = some (.int .u32 (lm xs i : Nat))) : Nums w (.slice (some ⟨b, off, none⟩) xs.length cap) xs :=
  ⟨ho, _, cap, rfl, h1, h2, fun _ => ⟨b, off, rfl, hc⟩⟩

/-- what lies below is read as before -/
theorem Nums.below {w w' : World} {v : Value} {xs : List Nat} (h : Nums w v xs) (hb : Below w.heap.size w w') : Nums w' v xs := by
  obtain ⟨ho, a, cap, rfl, h1, h2, h3⟩ := h
  refine ⟨ho, a, cap, rfl, h1, h2, fun hx => ?_⟩
  obtain ⟨b, off, rfl, hc⟩ := h3 hx
  refine ⟨b, off, rfl, fun i hi => ?_⟩
  rw [hb.cell (World.block_lt_of_cell? w _ (hc i hi))]
  exact hc i hi

theorem Nums.drew {w : World} {v : Value} {xs : List Nat} (h : Nums w v xs) : Nums w.drew v xs := h

/-- the first k limbs, at the same place -/
theorem Nums.take {w : World} {a : Option Addr} {n cap : Nat} {xs : List Nat} (h : Nums w (.slice a n cap) xs) (k : Nat) (hk : k ≤ xs.length) :
    Nums w (.slice a k cap) (xs.take k) := by
  obtain ⟨ho, a', cap', he, h1, h2, h3⟩ := h
  simp only [Value.slice.injEq] at he
  obtain ⟨rfl, rfl, rfl⟩ := he
  have hl : (xs.take k).length = k := by rw [List.length_take]; omega
  refine ⟨ho.take k, a, cap, by rw [hl], by omega, h2, fun hx => ?_⟩
  have hne : xs ≠ [] := by intro e; subst e; simp at hx
  obtain ⟨b, off, rfl, hc⟩ := h3 hne
  refine ⟨b, off, rfl, fun i hi => ?_⟩
  rw [hc i (by omega), lm_take _ _ _ (by omega)]

/-- the cells of a list of limbs -/
def ints (xs : List Nat) : List Value := xs.map fun (x : Nat) => Value.int .u32 (x : Int)
theorem ints_length (xs : List Nat) : (ints xs).length = xs.length := by simp [ints]
theorem ints_get (xs : List Nat) (i : Nat) (h : i < xs.length) : (ints xs)[i]? = some (.int .u32 (lm xs i : Nat)) := by simp [ints, h, lm_get]
theorem ints_one (xs : List Nat) : ∀ u ∈ ints xs, u.oneCell' = true := by
  intro u hu; obtain ⟨x, _, rfl⟩ := List.mem_map.1 hu; rfl
theorem ints_append (xs ys : List Nat) : ints xs ++ ints ys = ints (xs ++ ys) := by simp [ints]
theorem ints_set (xs : List Nat) (i x : Nat) : (ints xs).set i (.int .u32 (x : Nat)) = ints (xs.set i x) := by simp [ints, List.map_set]

/-- a row that the call owns reads as its numbers -/
theorem nums_of_row {w : World} {base e : Nat} {v : Value} {n : Nat} {xs : List Nat} (ho : Ok xs) (hn : xs.length = n)
    (h : w.ownsRow base e 1 v n (ints xs)) : Nums w v xs := by
  subst hn
  rcases h.2 with ⟨rfl, h0⟩ | ⟨g, cap, cur, rfl, _, _, hnc, hcm, _⟩
  · have : xs = [] := List.eq_nil_of_length_eq_zero h0
    subst this; exact Nums.nil_mk _ _ _ (Nat.zero_le _)
  · refine Nums.mk ho hnc hcm (fun i hi => ?_)
    rw [show (0 + i) = i from by omega, h.cellAt i (by omega), ints_get _ _ hi]

/-- the cells that a reading lies over, as an append asks for them -/
theorem Nums.news {w : World} {ad : Addr} {n cap : Nat} {xs : List Nat} (h : Nums w (.slice (some ad) n cap) xs) :
    (ints xs).length = n * 1 ∧ ∀ j u, (ints xs)[j]? = some u → w.cell? (ad.add j) = some u := by
  obtain ⟨_, a, c, he, _, _, h3⟩ := h
  simp only [Value.slice.injEq] at he
  obtain ⟨rfl, rfl, rfl⟩ := he
  refine ⟨by simp [ints], fun j u hu => ?_⟩
  have hj : j < xs.length := by have := (List.getElem?_eq_some_iff.1 hu).1; simpa [ints] using this
  obtain ⟨b, off, hb, hc⟩ := h3 (by intro e; rw [e] at hj; simp at hj)
  simp only [Option.some.injEq] at hb
  subst hb
  rw [ints_get _ _ hj] at hu
  have hadd : (⟨b, off, none⟩ : Addr).add j = ⟨b, off + j, none⟩ := by unfold Addr.add; split <;> simp_all
  rw [hadd, hc j hj]; exact hu

theorem nums_lit {w : World} {e : TypeId} (xs : List Nat) (cs : Array Value) (hc : cs.toList = ints xs) (ho : Ok xs) (hm : xs.length ≤ maxLen) {n : Nat} (hn : n = xs.length) :
    Nums (w.alloc (.cells cs e)) (.slice (some ⟨w.heap.size, 0, none⟩) n n) xs := by
  subst hn
  refine nums_of_row (base := 0) (e := e) ho rfl ?_
  rw [← hc]
  exact World.ownsRow_lit w cs xs.length (Nat.zero_le _) hm (by have := congrArg List.length hc; simpa [ints] using this)

theorem nums_lit1 (w : World) (e : TypeId) (x : Int) (n : Nat) (hx : x = n) (hn : n < BB) : Nums (w.alloc (.cells #[.int .u32 x] e)) (.slice (some ⟨w.heap.size, 0, none⟩) 1 1) [n] := by
  subst hx
  exact nums_lit [n] _ rfl (Ok.cons hn Ok.nil) (by simp [maxLen]) rfl

theorem nums_lit2 (w : World) (e : TypeId) (x y : Int) (m n : Nat) (hx : x = m) (hy : y = n) (hm : m < BB) (hn : n < BB) : Nums (w.alloc (.cells #[.int .u32 x, .int .u32 y] e)) (.slice (some ⟨w.heap.size, 0, none⟩) 2 2) [m, n] := by
  subst hx; subst hy
  exact nums_lit [m, n] _ rfl (Ok.cons hm (Ok.cons hn Ok.nil)) (by simp [maxLen]) rfl

theorem below_alloc (w : World) (o : Obj) : Below w.heap.size w (w.alloc o) := (Below.refl _ _).alloc (Nat.le_refl _) o

/-- the number that a slice says, read off the world: for a loop's measure -/
def numOf (w : World) : Value → Nat
  | .slice (some a) n _ => val ((List.range n).map fun i => match w.cell? ⟨a.block, a.off + i, none⟩ with
    | some (.int _ z) => z.toNat
    | _ => 0)
  | _ => 0

theorem Nums.numOf {w : World} {v : Value} {xs : List Nat} (h : Nums w v xs) : numOf w v = val xs := by
  rcases h.cases with ⟨rfl, a, cap, rfl, _⟩ | ⟨hpos, b, off, cap, rfl, _, _, _, hc⟩
  · cases a <;> rfl
  · show val _ = val xs
    congr 1
    apply List.ext_getElem
    · simp
    · intro i h1 h2
      simp [hc i h2, lm_get _ _ h2]

theorem ne_nil {xs : List Nat} {k : Nat} (h : k < xs.length) : xs ≠ [] := by intro e; rw [e] at h; simp at h

/-- the same place and room, another length -/
def Cut (v v' : Value) (n : Nat) : Prop := ∃ a m cap, v = .slice a m cap ∧ v' = .slice a n cap

theorem bcell {W w1 : World} (hb : Below W.heap.size W w1) : (∀ b o, b < W.heap.size → w1.cell? ⟨b, o, none⟩ = W.cell? ⟨b, o, none⟩) ∧ (∀ b o, b < W.heap.size → w1.frozen? ⟨b, o, none⟩ = W.frozen? ⟨b, o, none⟩) :=
  ⟨fun _ _ h => hb.cell (p := ⟨_, _, none⟩) h, fun _ _ h => hb.frozen (p := ⟨_, _, none⟩) h⟩

end Go.Proofs.Ytheakienigmkhaa

namespace Go.Proofs.Ytheakienigmkhaa
open Go.RowKit
theorem hide {p : Prop} (h : p) : Hid p := h
end Go.Proofs.Ytheakienigmkhaa
