/- A slice of integers that came in. Nothing of the program. -/
import Derived.Test.YtgkibmigbjjnnaaMem
import Derived.OpenShut
namespace Go.Proofs.Ytgkibmigbjjnnaa
open Go.RowKit

/-- a slice of integers that came in -/
def IsRow (k : IntKind) (w : World) (a : Option Addr) (len cap : Nat) (zs : List Int) : Prop :=
  (a = none ∧ len = 0 ∧ cap = 0 ∧ zs = []) ∨
  ∃ x, a = some x ∧ len ≤ cap ∧ cap ≤ maxLen ∧ zs.length = cap ∧ (∀ i, i < zs.length → w.cell? (x.add i) = some (.int k (zs.getD i 0))) ∧ ∀ n ∈ zs, (Lit.int k n).wf = true

theorem isrow_nums {w : World} {a : Option Addr} {len cap : Nat} {zs : List Int} (h : IsRow .u32 w a len cap zs) : ∃ xs : List Nat, xs.length = len ∧ Nums w (.slice a len cap) xs := by
  rcases h with ⟨rfl, rfl, rfl, rfl⟩ | ⟨x, rfl, hl, hm, hz, hc, hw⟩
  · exact ⟨[], rfl, Nums.nil_mk _ _ _ (Nat.zero_le _)⟩
  · have hb : ∀ z ∈ zs, 0 ≤ z ∧ z < 4294967296 := by
      intro z hz'
      have := bounds_u32 (hw z hz')
      omega
    refine ⟨(zs.take len).map Int.toNat, by simp; omega, ?_, some x, cap, by simp; omega, by simp; omega, hm, fun hne => ?_⟩
    · intro y hy
      obtain ⟨z, hz1, rfl⟩ := List.mem_map.1 hy
      have := hb z (List.mem_of_mem_take hz1)
      unfold BB; omega
    · have hlen : 0 < len := by
        rcases Nat.eq_zero_or_pos len with h0 | h0
        · subst h0; simp at hne
        · exact h0
      obtain ⟨b, off, spot⟩ := x
      have h0 := hc 0 (by omega)
      have hspot : spot = none := by simpa [Addr.add] using World.cell?_spot h0
      subst hspot
      refine ⟨b, off, rfl, fun i hi => ?_⟩
      have hi' : i < len := by simp at hi; omega
      have hci := hc i (by omega)
      have hadd : (⟨b, off, none⟩ : Addr).add i = ⟨b, off + i, none⟩ := by unfold Addr.add; split <;> simp_all
      rw [hadd] at hci
      rw [hci]
      have hzi : i < zs.length := by omega
      have := hb zs[i] (List.getElem_mem hzi)
      simp [lm, hi', hzi]
      omega
end Go.Proofs.Ytgkibmigbjjnnaa
