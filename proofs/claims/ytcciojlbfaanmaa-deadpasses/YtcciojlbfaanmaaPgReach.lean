/- a program that came in, with its reach: each of its lists takes no more bytes than a list may. -/
import Derived.Test.YtcciojlbfaanmaaPgOpen
import Derived.SizedLaws
namespace Go.Proofs.Ytcciojlbfaanmaa
open Go.RowKit Go.ChangeShapes Go.WideShapes Go.Joins

theorem len_code {H : Type} {enc : TypeId × Value → H} {W : World} {base n : Nat} {a : Option Addr} {len cap : Nat} {y : DataW H × List MemPlace}
    (h : DataW.trod enc Try.prog W base (fun _ => true) true n 22 [.slice a len cap] = some y) (hw : ∀ k ∈ y.1.weights Try.prog 22, k ≤ reachBytes) : len ≤ 3518437208780 := by
  have hr : reachBytes = 140737488351232 := rfl
  rcases Go.Deep.open_slice Try.underlying22 h with ⟨hcs, _⟩ | ⟨x, l, c, m, k, D, Pl, hcs, _, hl, hm, hmm, hy, hx⟩
  · simp at hcs
    omega
  · simp at hcs
    obtain ⟨rfl, rfl, rfl⟩ := hcs
    subst hy
    have := hw ((((List.range len).map D).length + ((List.range (m - len)).map fun j => D (len + j)).length) * Try.prog.bytesOf 34) (by simp only [DataW.weights, Try.underlying22]; exact List.mem_cons_self ..)
    rw [show Try.prog.bytesOf 34 = 40 by kernel_rfl] at this
    simp only [List.length_map, List.length_range] at this
    omega
theorem len_outs {H : Type} {enc : TypeId × Value → H} {W : World} {base n : Nat} {a : Option Addr} {len cap : Nat} {y : DataW H × List MemPlace}
    (h : DataW.trod enc Try.prog W base (fun _ => true) true n 23 [.slice a len cap] = some y) (hw : ∀ k ∈ y.1.weights Try.prog 23, k ≤ reachBytes) : len ≤ 17592186043904 := by
  have hr : reachBytes = 140737488351232 := rfl
  rcases Go.Deep.open_slice Try.underlying23 h with ⟨hcs, _⟩ | ⟨x, l, c, m, k, D, Pl, hcs, _, hl, hm, hmm, hy, hx⟩
  · simp at hcs
    omega
  · simp at hcs
    obtain ⟨rfl, rfl, rfl⟩ := hcs
    subst hy
    have := hw ((((List.range len).map D).length + ((List.range (m - len)).map fun j => D (len + j)).length) * Try.prog.bytesOf 3) (by simp only [DataW.weights, Try.underlying23]; exact List.mem_cons_self ..)
    rw [show Try.prog.bytesOf 3 = 8 by kernel_rfl] at this
    simp only [List.length_map, List.length_range] at this
    omega
theorem weights_prog {H : Type} (a b c d : DataW H) : DataW.weights Try.prog 25 (DataW.agg [a, b, c, d]) = DataW.weightsEach Try.prog [3, 3, 22, 23] [a, b, c, d] := by
  simp only [DataW.weights, Try.underlying25]
  rfl
set_option maxRecDepth 100000 in
theorem open_prog_reach {H : Type} {enc : TypeId × Value → H} {W : World} {base b0 : Nat} {v : Value} {d : DataW H} {pl : List MemPlace} (hv : Value.okWide Try.prog W .any b0 25 v)
    (h : DataW.Trod enc Try.prog W base (fun _ => true) true 25 v d pl) (hw : ∀ k ∈ d.weights Try.prog 25, k ≤ reachBytes) : ∃ p : Pg, PgAt W v p ∧ p.code.length ≤ 3518437208780 ∧ p.outs.length ≤ 17592186043904 := by
  obtain ⟨cs, rfl, hsz⟩ := okWide_struct Try.underlying25 hv
  have h4 : Try.prog.cellsOf 25 = 4 := by kernel_rfl
  obtain ⟨c0, c1, c2, c3, rfl⟩ := array4 (hsz.trans h4)
  obtain ⟨fuel, hf⟩ := h
  obtain ⟨y0, y1, y2, y3, n, hx, _, h0, h1, h2, h3⟩ := trod_struct4 Try.underlying25 hf
  simp only [Prod.mk.injEq] at hx
  obtain ⟨rfl, _⟩ := hx
  rw [weights_prog] at hw
  simp only [DataW.weightsEach, List.mem_append] at hw
  have k1 : Try.prog.cellsOf 3 = 1 := by kernel_rfl
  have k2 : Try.prog.cellsOf 22 = 1 := by kernel_rfl
  have k3 : Try.prog.cellsOf 23 = 1 := by kernel_rfl
  simp only [Value.cells, k1, k2, k3, List.drop_succ_cons, List.drop_zero, List.take_succ_cons, List.take_zero] at h0 h1 h2 h3
  obtain ⟨z0, e0, _, _⟩ := DataW.trod_int Try.underlying3 h0
  obtain ⟨z1, e1, _, _⟩ := DataW.trod_int Try.underlying3 h1
  obtain ⟨ca, cc, lc, e2, g2⟩ := open_code h2
  obtain ⟨oa, oc, lo, e3, g3⟩ := open_outs h3
  simp only [List.cons.injEq, and_true] at e0 e1
  subst e0 e1 e2 e3
  exact ⟨⟨z0, z1, lc, lo⟩, ⟨ca, cc, oa, oc, rfl, g2, g3⟩, len_code h2 (fun k hk => hw k (.inr (.inr (.inl hk)))), len_outs h3 (fun k hk => hw k (.inr (.inr (.inr (.inl hk)))))⟩
end Go.Proofs.Ytcciojlbfaanmaa
