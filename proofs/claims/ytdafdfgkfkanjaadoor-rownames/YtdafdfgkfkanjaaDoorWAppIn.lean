/- append of one struct of two cells to a list of one's own, within a fence. Nothing of the program. -/
import Derived.Test.YtdafdfgkfkanjaaDoorWApp
import Derived.Test.YtdafdfgkfkanjaaDoorRgLaw
namespace Go.Proofs.YtdafdfgkfkanjaaDoor
open Go.RowKit

theorem run_app2 {P : Program} (w : World) (t ty : TypeId)
    (base : Nat) (e : TypeId) (i : TypeInfo) (ht : P.underlying t = some (.slice e)) (hi : P.info? e = some i) (hz : i.zero = some (.agg #[.bool false, .slice none 0 0])) (hsize : i.size = 2) (hby : i.bytes = 32)
    (v : Value) (n : Nat) (xs : List Value) (hown : Own2 w base e v n xs)
    (b c : Nat) (b0 : Bool) (m0 : Option Addr) (l0 c0 : Nat) (hc0 : w.cell? ⟨b, 0, none⟩ = some (.bool b0)) (hc1 : w.cell? ⟨b, 1, none⟩ = some (.slice m0 l0 c0))
    (hn : n ≤ 1000000000) (hbase : base ≤ w.heap.size) :
    ∃ v' w', (Builtin.append_ #[t, t] ty #[v, .slice (some ⟨b, 0, none⟩) 1 c]).run P w = .ok v' w' ∧ Own2 w' base e v' (n + 1) (xs ++ [.bool b0, .slice m0 l0 c0]) ∧ w.grownBy w' v.ownBlock ∧ (v'.ownBlock = v.ownBlock ∨ v'.ownBlock = some w.heap.size) := by
  have hl : ([.bool b0, .slice m0 l0 c0] : List Value).length = 1 * i.size := by rw [hsize]; rfl
  have hnews : ∀ j u, ([.bool b0, .slice m0 l0 c0] : List Value)[j]? = some u → w.cell? ((⟨b, 0, none⟩ : Addr).add j) = some u := by
    intro j u hj
    match j with
    | 0 => simp only [List.getElem?_cons_zero, Option.some.injEq] at hj; rw [← hj]; exact hc0
    | 1 => simp only [List.getElem?_cons_succ, List.getElem?_cons_zero, Option.some.injEq] at hj; rw [← hj]; exact hc1
    | j + 2 => simp at hj
  have h1 : ∀ u ∈ ([.bool b0, .slice m0 l0 c0] : List Value), u.oneCell' = true := by
    intro u hu
    simp only [List.mem_cons, List.not_mem_nil, or_false] at hu
    rcases hu with rfl | rfl <;> rfl
  have hnu : ∀ u ∈ ([.bool b0, .slice m0 l0 c0] : List Value), ∀ z, u ≠ .int .u32 z := by
    intro u hu z
    simp only [List.mem_cons, List.not_mem_nil, or_false] at hu
    rcases hu with rfl | rfl <;> simp
  have hzn : ∀ k, ∀ u ∈ (Builtin.zeroCells #[.bool false, .slice none 0 0] k).toList, ∀ z, u ≠ .int .u32 z := by
    intro k u hu z
    rcases mem_zeroCells hu with rfl | rfl <;> simp
  have h63 : n + 1 ≤ maxLen := by unfold maxLen; omega
  obtain ⟨v', w', hr, h2, h3, h4⟩ := run_append_own (P := P) w base t ty e i _ 2 32 ht hi hz hsize hby rfl (by decide) v n xs hown.1 ⟨b, 0, none⟩ 1 c [.bool b0, .slice m0 l0 c0] (by rw [hl, hsize]) hnews h1 h63 (by omega) hbase
  have hp : (∀ g cur tt fr, v'.ownBlock = some g → w'.heap[g]? = some (.cells cur tt fr) → ∀ u ∈ cur.toList, ∀ z, u ≠ .int .u32 z) ∧ (v'.ownBlock = v.ownBlock ∨ v'.ownBlock = some w.heap.size) := by
    rcases hown.1.2 with ⟨rfl, rfl⟩ | ⟨g0, cap, cur0, rfl, hbg, hg0, hnc, hcm, hcs, htake⟩
    · have hr' := run_append_nil (P := P) w t ty e i _ ht hi hz ⟨b, 0, none⟩ 1 c [.bool b0, .slice m0 l0 c0] hl hnews (by decide) (by decide) (by rw [hby]; decide)
      rw [hr'] at hr
      simp only [Result.ok.injEq] at hr
      obtain ⟨rfl, rfl⟩ := hr
      refine ⟨?_, .inr rfl⟩
      intro g cur tt fr hg hh u hu z
      have e : w.heap.size = g := by simpa [Value.ownBlock] using hg
      subst e
      rw [show (w.heap.size : Nat) = w.drew.heap.size from rfl, heap_alloc_new] at hh
      simp only [Option.some.injEq, Obj.cells.injEq] at hh
      obtain ⟨rfl, _⟩ := hh
      rw [Array.toList_append] at hu
      rcases List.mem_append.1 hu with hu | hu
      · exact hnu u (by simpa using hu) z
      · exact hzn _ u hu z
    · have hall := hown.2 g0 cur0 e (0, 0) rfl hg0
      by_cases hroom : n + 1 ≤ cap
      · have hfit : n * i.size + ([.bool b0, .slice m0 l0 c0] : List Value).length ≤ cur0.size := by rw [hsize, hcs]; show n * 2 + 2 ≤ cap * 2; omega
        have hr' := run_append_room (P := P) w t ty e i ht hi g0 n cap cur0 hg0 ⟨b, 0, none⟩ 1 c [.bool b0, .slice m0 l0 c0] hl hnews h1 hroom hfit
        rw [hr'] at hr
        simp only [Result.ok.injEq] at hr
        obtain ⟨rfl, rfl⟩ := hr
        refine ⟨?_, .inl rfl⟩
        intro g cur tt fr hg hh u hu z
        have e : g0 = g := by simpa [Value.ownBlock] using hg
        subst e
        rw [setRow_heap w g0 cur0 _ _ _ hg0] at hh
        simp only [Option.some.injEq, Obj.cells.injEq] at hh
        obtain ⟨rfl, _⟩ := hh
        simp only [List.mem_append] at hu
        rcases hu with (hu | hu) | hu
        · exact hall u (List.mem_of_mem_take hu) z
        · exact hnu u hu z
        · exact hall u (List.mem_of_mem_drop hu) z
      · have holds : ∀ j u, xs[j]? = some u → w.cell? ((⟨g0, 0, none⟩ : Addr).add j) = some u := hown.1.cells (g := g0) rfl
        have hr' := run_append_grow (P := P) w t ty e i _ ht hi hz ⟨g0, 0, none⟩ n cap xs (by rw [hsize]; exact hown.1.1) holds ⟨b, 0, none⟩ 1 c [.bool b0, .slice m0 l0 c0] hl hnews (by omega) (by omega) (growslice_fits (by omega) (by rw [hby]; omega))
        rw [hr'] at hr
        simp only [Result.ok.injEq] at hr
        obtain ⟨rfl, rfl⟩ := hr
        refine ⟨?_, .inr rfl⟩
        intro g cur tt fr hg hh u hu z
        have e : w.heap.size = g := by simpa [Value.ownBlock] using hg
        subst e
        rw [show (w.heap.size : Nat) = w.drew.heap.size from rfl, heap_alloc_new] at hh
        simp only [Option.some.injEq, Obj.cells.injEq] at hh
        obtain ⟨rfl, _⟩ := hh
        simp only [Array.toList_append, List.mem_append] at hu
        rcases hu with (hu | hu) | hu
        · rw [← htake] at hu; exact hall u (List.mem_of_mem_take (by simpa using hu)) z
        · exact hnu u (by simpa using hu) z
        · exact hzn _ u hu z
  exact ⟨v', w', hr, ⟨h2, hp.1⟩, h3, hp.2⟩

theorem wpListIn_app2 {F : Fence} {fn : Nat} {P : Program} (w : World) {ops : Array Oper} {rest : List Oper} {o : Oper} {a : Act} {Q : Exit → Act → World → Prop}
    (hg : o.guard = none) (s x : Operand) (t : TypeId) (hop : o.op = Op.call { callee := Callee.builtin Builtin.append, args := #[s, x], argTypes := #[t, t] })
    (base : Nat) (e : TypeId) (i : TypeInfo) (ht : P.underlying t = some (.slice e)) (hi : P.info? e = some i) (hz : i.zero = some (.agg #[.bool false, .slice none 0 0])) (hsize : i.size = 2) (hby : i.bytes = 32)
    (v : Value) (n : Nat) (xs : List Value) (hs : a.eval s = v) (hown : Own2 w base e v n xs)
    (b c : Nat) (b0 : Bool) (m0 : Option Addr) (l0 c0 : Nat) (hx : a.eval x = .slice (some ⟨b, 0, none⟩) 1 c) (hc0 : w.cell? ⟨b, 0, none⟩ = some (.bool b0)) (hc1 : w.cell? ⟨b, 1, none⟩ = some (.slice m0 l0 c0))
    (hn : n ≤ 1000000000) (hbase : base ≤ w.heap.size)
    (hK : ∀ v' w', Own2 w' base e v' (n + 1) (xs ++ [.bool b0, .slice m0 l0 c0]) → w.grownBy w' v.ownBlock → (v'.ownBlock = v.ownBlock ∨ v'.ownBlock = some w.heap.size) → wpListIn F fn P ops Q rest (a.put o.dst v') w') :
    wpListIn F fn P ops Q (o :: rest) a w := by
  refine wpListIn_plain hg fun K hK' => ?_
  obtain ⟨v', w', hrun, r1, r2, r4⟩ := run_app2 (P := P) w t o.type base e i ht hi hz hsize hby v n xs hown b c b0 m0 l0 c0 hc0 hc1 hn hbase
  unfold Oper.wpIn
  refine ⟨?_, ?_⟩
  · simp [Oper.about, hop, resolve, Target.leads, Sem.run_pure]
  · rw [Oper.semAt_plain F _ _ (by rw [hop]; intro c hc'; cases hc')]
    simp [execOp, hop, resolve, invoke, builtin, hs, hx, hrun, Result.andThen]
    exact hK' _ _ (hK v' w' r1 r2 r4)
end Go.Proofs.YtdafdfgkfkanjaaDoor
