/- lists of fractions' texts that came in. -/
import Derived.Test.YtgkibmigbjjnnaaRLong2
import Derived.Deep.SlicePairs
import Derived.SizedLaws
namespace Go.Proofs.Ytgkibmigbjjnnaa
open Go.RowKit Go.ChangeShapes Go.WideShapes

theorem add_noneF (b off i : Nat) : (⟨b, off, none⟩ : Addr).add i = ⟨b, off + i, none⟩ := by unfold Addr.add; split <;> simp_all
theorem open_fracs {H : Type} {enc : TypeId × Value → H} {W : World} {base : Nat} {a : Option Addr} {len cap : Nat} {d : DataW H} {p : List MemPlace}
    (h : DataW.Trod enc Try.prog W base (fun _ => true) true 50 (.slice a len cap) d p) :
    ∃ l : List (ByteArray × ByteArray), FracL W (.slice a len cap) l := by
  obtain ⟨fuel, hf⟩ := h
  rcases Go.Deep.open_slice_pairs Try.underlying50 Try.underlying55 (by kernel_rfl) rfl rfl (by kernel_rfl) (by kernel_rfl) hf with ⟨hcs, _⟩ | ⟨x, l, c, m, n, V0, V1, D0, D1, P0, P1, hcs, _, hl, hm, hmm, hd, hx⟩
  · simp [Value.cells] at hcs
    obtain ⟨rfl, rfl, rfl⟩ := hcs
    exact ⟨[], none, 0, rfl, Nat.le_refl _, Nat.zero_le _, fun i hi => absurd hi (Nat.not_lt_zero i)⟩
  · simp [Value.cells] at hcs
    obtain ⟨rfl, rfl, rfl⟩ := hcs
    simp only [if_true] at hmm
    subst hmm
    have each : ∀ i, i < len → ∃ q : ByteArray × ByteArray, V0 i = .string q.1 ∧ V1 i = .string q.2 ∧ q.1.size ≤ maxLen ∧ q.2.size ≤ maxLen := by
      intro i hi
      obtain ⟨_, _, h0, h1⟩ := hx i (by omega)
      obtain ⟨z0, e0, _, w0⟩ := DataW.trod_string Try.underlying9 h0
      obtain ⟨z1, e1, _, w1⟩ := DataW.trod_string Try.underlying9 h1
      simp only [List.cons.injEq, and_true] at e0 e1
      exact ⟨(z0, z1), e0, e1, w0, w1⟩
    obtain ⟨q, hq⟩ := Go.Deep.choose_lt each
    have hlen : ((List.range len).map q).length = len := by simp
    have hget : ∀ i, i < len → bT ((List.range len).map q) i = q i := fun i hi => by simp [bT, hi]
    obtain ⟨b, off, sp⟩ := x
    refine ⟨(List.range len).map q, some ⟨b, off, sp⟩, m, by rw [hlen], by rw [hlen]; exact hl, hm, fun i hi => ?_⟩
    rw [hlen] at hi
    have hsp : sp = none := by simpa [Addr.add] using World.cell?_spot (hx 0 (by omega)).1
    subst hsp
    refine ⟨b, off, rfl, ?_⟩
    rw [hget i hi]
    obtain ⟨g0, g1, g2, g3⟩ := hq i hi
    have k0 := (hx i (by omega)).1
    have k1 := (hx i (by omega)).2.1
    rw [add_noneF] at k0 k1
    unfold maxLen at g2 g3
    exact ⟨by rw [k0, g0], by rw [← Nat.add_assoc] at k1; rw [k1, g1], by omega, by omega⟩
end Go.Proofs.Ytgkibmigbjjnnaa
