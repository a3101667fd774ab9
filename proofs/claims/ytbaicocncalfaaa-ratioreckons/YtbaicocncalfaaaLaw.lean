/- What the walks of the laws share: the lists that are alive, how great numbers get, and a slice that came in. -/
import Derived.Test.YtbaicocncalfaaaNum
import Derived.Test.YtbaicocncalfaaaMem
import Derived.OpenShut
import Derived.Test.YtbaicocncalfaaaMul
namespace Go.Proofs.Ytbaicocncalfaaa
theorem ok1 {a : Nat} (h : a < BB) : Ok [a] := Ok.cons h Ok.nil
theorem ok2 {a b : Nat} (h : a < BB) (k : b < BB) : Ok [a, b] := Ok.cons h (Ok.cons k Ok.nil)
theorem lim1 {a : Nat} (h : a < BB) (h0 : a ≠ 0) : lim a = [a] := by
  have := lim_val (ok1 h) (by intro x hx; simp at hx; omega)
  simpa [val] using this
theorem lim2 {a b n : Nat} (h : a < BB) (k : b < BB) (h0 : b ≠ 0) (e : n = a + BB * b) : lim n = [a, b] := by
  have := lim_val (ok2 h k) (by intro x hx; simp at hx; omega)
  rw [e]; simpa [val] using this

end Go.Proofs.Ytbaicocncalfaaa

namespace Go.Proofs.Ytbaicocncalfaaa
open Go.RowKit

/-- a slice of integers that came in -/
def IsRow (k : IntKind) (w : World) (a : Option Addr) (len cap : Nat) (zs : List Int) : Prop :=
  (a = none ∧ len = 0 ∧ cap = 0 ∧ zs = []) ∨
  ∃ x, a = some x ∧ len ≤ cap ∧ cap ≤ maxLen ∧ zs.length = cap ∧ (∀ i, i < zs.length → w.cell? (x.add i) = some (.int k (zs.getD i 0))) ∧ ∀ n ∈ zs, (Lit.int k n).wf = true

theorem isrow_nums {w : World} {a : Option Addr} {len cap : Nat} {zs : List Int} (h : IsRow .u32 w a len cap zs) : ∃ xs : List Nat, xs.length = len ∧ Nums w (.slice a len cap) xs := by
  rcases h with ⟨rfl, rfl, rfl, rfl⟩ | ⟨x, rfl, hl, hm, hz, hc, hw⟩
  · exact ⟨[], rfl, Nums.nil_mk _ _ _ (Nat.zero_le _)⟩
  · have hb : ∀ z ∈ zs, 0 ≤ z ∧ z < 4294967296 := by
      intro z hz'
      have := bounds_u32 (hw z hz')
      omega
    refine ⟨(zs.take len).map Int.toNat, by simp; omega, ?_, some x, cap, by simp; omega, by simp; omega, hm, fun hne => ?_⟩
    · intro y hy
      obtain ⟨z, hz1, rfl⟩ := List.mem_map.1 hy
      have := hb z (List.mem_of_mem_take hz1)
      unfold BB; omega
    · have hlen : 0 < len := by
        rcases Nat.eq_zero_or_pos len with h0 | h0
        · subst h0; simp at hne
        · exact h0
      obtain ⟨b, off, spot⟩ := x
      have h0 := hc 0 (by omega)
      have hspot : spot = none := by simpa [Addr.add] using World.cell?_spot h0
      subst hspot
      refine ⟨b, off, rfl, fun i hi => ?_⟩
      have hi' : i < len := by simp at hi; omega
      have hci := hc i (by omega)
      have hadd : (⟨b, off, none⟩ : Addr).add i = ⟨b, off + i, none⟩ := by unfold Addr.add; split <;> simp_all
      rw [hadd] at hci
      rw [hci]
      have hzi : i < zs.length := by omega
      have := hb zs[i] (List.getElem_mem hzi)
      simp [lm, hi', hzi]
      omega
end Go.Proofs.Ytbaicocncalfaaa

namespace Go.Proofs.Ytbaicocncalfaaa
open Go.RowKit

/-- since w0 nothing that was there has turned, and these values read as these limbs -/
structure St (w0 w : World) (l : List (Value × List Nat)) : Prop where
  below : Below w0.heap.size w0 w
  live : ∀ p ∈ l, Nums w p.1 p.2

theorem St.start {w : World} : St w w [] := ⟨Below.refl _ _, fun _ h => by cases h⟩
theorem St.push {w0 w : World} {l : List (Value × List Nat)} (h : St w0 w l) {v : Value} {xs : List Nat} (n : Nums w v xs) : St w0 w ((v, xs) :: l) :=
  ⟨h.below, fun p hp => by rcases List.mem_cons.1 hp with rfl | hp; exact n; exact h.live p hp⟩
theorem St.step {w0 w w' : World} {l : List (Value × List Nat)} (h : St w0 w l) (hb : Below w.heap.size w w') : St w0 w' l :=
  ⟨h.below.trans (hb.mono h.below.size), fun p hp => (h.live p hp).below hb⟩
theorem St.alloc {w0 w : World} {l : List (Value × List Nat)} (h : St w0 w l) (o : Obj) : St w0 (w.alloc o) l := h.step (below_alloc w o)
theorem St.drew {w0 w : World} {l : List (Value × List Nat)} (h : St w0 w l) : St w0 w.drew l := h.step (Below.refl _ w).drew
theorem St.drewN {w0 w : World} {l : List (Value × List Nat)} (h : St w0 w l) (n : Nat) : St w0 (w.drewN n) l := h.step (below_drewN (Below.refl _ w) n)
theorem St.get {w0 w : World} {l : List (Value × List Nat)} (h : St w0 w l) {v : Value} {xs : List Nat} (hm : (v, xs) ∈ l) : Nums w v xs := h.live _ hm

/-- of so many limbs at most -/
def Sz (k n : Nat) : Prop := n < BB ^ k
theorem Sz.of {xs : List Nat} {k : Nat} (h : Ok xs) (hl : xs.length ≤ k) : Sz k (val xs) :=
  Nat.lt_of_lt_of_le (val_lt h) (Nat.pow_le_pow_right (by decide) hl)
theorem Sz.mono {j k n : Nat} (h : Sz j n) (hl : j ≤ k) : Sz k n := Nat.lt_of_lt_of_le h (Nat.pow_le_pow_right (by decide) hl)
theorem Sz.le {k m n : Nat} (h : Sz k n) (hl : m ≤ n) : Sz k m := Nat.lt_of_le_of_lt hl h
theorem Sz.add {k m n : Nat} (h : Sz k m) (h' : Sz k n) : Sz (k + 1) (m + n) := by
  unfold Sz at *; rw [Nat.pow_succ]; have : BB ^ k * 2 ≤ BB ^ k * BB := Nat.mul_le_mul_left _ (by decide); omega
theorem Sz.mul {j k m n : Nat} (h : Sz j m) (h' : Sz k n) : Sz (j + k) (m * n) := by
  unfold Sz at *; rw [Nat.pow_add]
  exact Nat.mul_lt_mul_of_lt_of_le h (Nat.le_of_lt h') (Nat.pow_pos (by decide))
theorem Sz.len {k n : Nat} (h : Sz k n) : (lim n).length ≤ k := lim_length_le h

end Go.Proofs.Ytbaicocncalfaaa
