/- lists of points that came in. -/
import Derived.Test.YtapodkjmhenceaaPtList
import Derived.Deep.SlicePairs
import Derived.SizedLaws
namespace Go.Proofs.Ytapodkjmhenceaa
open Go.RowKit Go.ChangeShapes Go.WideShapes

theorem add_noneP (b off i : Nat) : (⟨b, off, none⟩ : Addr).add i = ⟨b, off + i, none⟩ := by unfold Addr.add; split <;> simp_all
theorem open_pts {H : Type} {enc : TypeId × Value → H} {W : World} {base : Nat} {a : Option Addr} {len cap : Nat} {d : DataW H} {p : List MemPlace}
    (h : DataW.Trod enc Try.prog W base (fun _ => true) true 73 (.slice a len cap) d p) :
    ∃ ps : List (Int × Int), PtsAt W (.slice a len cap) ps ∧ ∀ i, (Lit.int .i64 (pA ps i)).wf = true ∧ (Lit.int .i64 (pB ps i)).wf = true := by
  obtain ⟨fuel, hf⟩ := h
  rcases Go.Deep.open_slice_pairs Try.underlying73 Try.underlying61 (by kernel_rfl) rfl rfl (by kernel_rfl) (by kernel_rfl) hf with ⟨hcs, _⟩ | ⟨x, l, c, m, n, V0, V1, D0, D1, P0, P1, hcs, _, hl, hm, hmm, hd, hx⟩
  · simp [Value.cells] at hcs
    obtain ⟨rfl, rfl, rfl⟩ := hcs
    exact ⟨[], ⟨none, 0, rfl, Nat.le_refl _, Nat.zero_le _, fun h => absurd rfl h⟩, fun i => ⟨rfl, rfl⟩⟩
  · simp [Value.cells] at hcs
    obtain ⟨rfl, rfl, rfl⟩ := hcs
    simp only [if_true] at hmm
    subst hmm
    have each : ∀ i, i < len → ∃ q : Int × Int, V0 i = .int .i64 q.1 ∧ V1 i = .int .i64 q.2 ∧ (Lit.int .i64 q.1).wf = true ∧ (Lit.int .i64 q.2).wf = true := by
      intro i hi
      obtain ⟨_, _, h0, h1⟩ := hx i (by omega)
      obtain ⟨z0, e0, _, w0⟩ := DataW.trod_int Try.underlying3 h0
      obtain ⟨z1, e1, _, w1⟩ := DataW.trod_int Try.underlying3 h1
      simp only [List.cons.injEq, and_true] at e0 e1
      exact ⟨(z0, z1), e0, e1, w0, w1⟩
    obtain ⟨q, hq⟩ := Go.Deep.choose_lt each
    have hlen : ((List.range len).map q).length = len := by simp
    have hget : ∀ i, i < len → ((List.range len).map q).getD i (0, 0) = q i := fun i hi => by simp [hi]
    obtain ⟨b, off, sp⟩ := x
    refine ⟨(List.range len).map q, ⟨some ⟨b, off, sp⟩, m, by rw [hlen], by rw [hlen]; exact hl, hm, fun hne => ?_⟩, fun i => ?_⟩
    · have h0 : 0 < len := by
        rcases Nat.eq_zero_or_pos len with h | h
        · exact absurd (List.eq_nil_of_length_eq_zero (by rw [hlen]; exact h)) hne
        · exact h
      have hsp : sp = none := by simpa [Addr.add] using World.cell?_spot (hx 0 (by omega)).1
      subst hsp
      refine ⟨b, off, rfl, fun i hi => ?_⟩
      rw [hlen] at hi
      unfold pA pB
      rw [hget i hi]
      obtain ⟨g0, g1, _⟩ := hq i hi
      have k0 := (hx i (by omega)).1
      have k1 := (hx i (by omega)).2.1
      rw [add_noneP] at k0 k1
      exact ⟨by rw [k0, g0], by rw [← Nat.add_assoc] at k1; rw [k1, g1]⟩
    · unfold pA pB
      rcases Nat.lt_or_ge i len with hi | hi
      · rw [hget i hi]; exact ⟨(hq i hi).2.2.1, (hq i hi).2.2.2⟩
      · rw [List.getD_eq_getElem?_getD, List.getElem?_eq_none (by simpa using hi)]; exact ⟨rfl, rfl⟩
end Go.Proofs.Ytapodkjmhenceaa
