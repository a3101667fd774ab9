/- append of one struct of two cells to a list of one's own. Nothing of the program. -/
import Derived.Test.YtngdnekbajnomaaWRow
import Derived.Laws.AppendOwn
import Derived.Test.YtngdnekbajnomaaR2Norm
namespace Go.Proofs.Ytngdnekbajnomaa
open Go.RowKit

/-- a list of one's own of which no cell holds a limb -/
def Own2 (w : World) (base : Nat) (e : TypeId) (v : Value) (n : Nat) (xs : List Value) : Prop :=
  w.ownsRow base e 2 v n xs ∧ ∀ g cur t fr, v.ownBlock = some g → w.heap[g]? = some (.cells cur t fr) → ∀ c ∈ cur.toList, ∀ z, c ≠ .int .u32 z
theorem Own2.nil (w : World) (base : Nat) (e : TypeId) : Own2 w base e (.slice none 0 0) 0 [] := ⟨World.ownsRow_nil _ _ _ _, fun g cur t fr h => by cases h⟩
theorem Own2.below {w w' : World} {base : Nat} {e : TypeId} {v : Value} {n : Nat} {xs : List Value} (h : Own2 w base e v n xs) (hb : Below w.heap.size w w') : Own2 w' base e v n xs := by
  obtain ⟨⟨hl, h1⟩, h2⟩ := h
  refine ⟨⟨hl, ?_⟩, fun g cur t fr hg hh => h2 g cur t fr hg ?_⟩
  · rcases h1 with h0 | ⟨g, cap, cur, rfl, hg, hh, r⟩
    · exact .inl h0
    · exact .inr ⟨g, cap, cur, rfl, hg, by rw [hb.block g (Array.getElem?_eq_some_iff.1 hh).1]; exact hh, r⟩
  · rcases h1 with ⟨rfl, _⟩ | ⟨g', cap, cur', rfl, _, hh', r⟩
    · cases hg
    · have e : g' = g := by simpa [Value.ownBlock] using hg
      subst e
      rw [← hb.block g' (Array.getElem?_eq_some_iff.1 hh').1]; exact hh
/-- what is written into such a list leaves all limbs -/
theorem Own2.spares {w w' : World} {base : Nat} {e : TypeId} {v : Value} {n : Nat} {xs : List Value} (h : Own2 w base e v n xs) (hg : w.grownBy w' v.ownBlock) : Spares w w' := by
  intro u ys hn
  obtain ⟨ho, a, cap, rfl, h1, h2, h3⟩ := hn
  refine ⟨ho, a, cap, rfl, h1, h2, fun hx => ?_⟩
  obtain ⟨b, off, rfl, hcell⟩ := h3 hx
  refine ⟨b, off, rfl, fun i hi => hg.cell (hcell i hi) fun e => ?_⟩
  have hc := hcell i hi
  cases hb : w.heap[b]? with
  | none => simp [World.cell?, hb] at hc
  | some ob =>
    cases ob with
    | cells cur t fr =>
      have hc' : cur[off + i]? = some (.int .u32 (lm ys i)) := by simpa [World.cell?, hb, lm] using hc
      have hm : (Value.int .u32 (lm ys i)) ∈ cur.toList := by
        rw [← Array.getElem?_toList] at hc'
        exact List.mem_of_getElem? hc'
      exact h.2 b cur t fr e.symm hb _ hm _ rfl
    | _ => simp [World.cell?, hb] at hc
theorem mem_zeroCells {n : Nat} {c : Value} (h : c ∈ (Builtin.zeroCells #[.bool false, .slice none 0 0] n).toList) : c = .bool false ∨ c = .slice none 0 0 := by
  simp only [Builtin.zeroCells, Array.toList_map, List.mem_map] at h
  obtain ⟨i, _, rfl⟩ := h
  have : i % (#[Value.bool false, .slice none 0 0] : Array Value).size < 2 := Nat.mod_lt _ (by decide)
  generalize i % (#[Value.bool false, .slice none 0 0] : Array Value).size = j at *
  match j, this with
  | 0, _ => exact .inl rfl
  | 1, _ => exact .inr rfl
theorem wp_app2 {P : Program} (w : World) {o : Oper} {a : Act} {K : Act → World → Prop} {Q : Exit → Act → World → Prop} (s x : Operand) (t : TypeId)
    (ho : o.op = .call { callee := .builtin .append, args := #[s, x], argTypes := #[t, t] })
    (base : Nat) (e : TypeId) (i : TypeInfo) (ht : P.underlying t = some (.slice e)) (hi : P.info? e = some i) (hz : i.zero = some (.agg #[.bool false, .slice none 0 0])) (hsize : i.size = 2) (hby : i.bytes = 32)
    (v : Value) (n : Nat) (xs : List Value) (hs : a.eval s = v) (hown : Own2 w base e v n xs)
    (b c : Nat) (b0 : Bool) (m0 : Option Addr) (l0 c0 : Nat) (hx : a.eval x = .slice (some ⟨b, 0, none⟩) 1 c) (hc0 : w.cell? ⟨b, 0, none⟩ = some (.bool b0)) (hc1 : w.cell? ⟨b, 1, none⟩ = some (.slice m0 l0 c0))
    (hn : n ≤ 1000000000) (hbase : base ≤ w.heap.size)
    (h : ∀ v' w', Own2 w' base e v' (n + 1) (xs ++ [.bool b0, .slice m0 l0 c0]) → w.grownBy w' v.ownBlock → (v'.ownBlock = v.ownBlock ∨ v'.ownBlock = some w.heap.size) → K (a.put o.dst v') w') : o.wp P a w K Q := by
  have hl : ([.bool b0, .slice m0 l0 c0] : List Value).length = 1 * i.size := by rw [hsize]; rfl
  have hnews : ∀ j u, ([.bool b0, .slice m0 l0 c0] : List Value)[j]? = some u → w.cell? ((⟨b, 0, none⟩ : Addr).add j) = some u := by
    intro j u hj
    match j with
    | 0 => simp only [List.getElem?_cons_zero, Option.some.injEq] at hj; rw [← hj]; exact hc0
    | 1 => simp only [List.getElem?_cons_succ, List.getElem?_cons_zero, Option.some.injEq] at hj; rw [← hj]; exact hc1
    | j + 2 => simp at hj
  have h1 : ∀ u ∈ ([.bool b0, .slice m0 l0 c0] : List Value), u.oneCell' = true := by
    intro u hu
    simp only [List.mem_cons, List.not_mem_nil, or_false] at hu
    rcases hu with rfl | rfl <;> rfl
  have hnu : ∀ u ∈ ([.bool b0, .slice m0 l0 c0] : List Value), ∀ z, u ≠ .int .u32 z := by
    intro u hu z
    simp only [List.mem_cons, List.not_mem_nil, or_false] at hu
    rcases hu with rfl | rfl <;> simp
  have hzn : ∀ k, ∀ u ∈ (Builtin.zeroCells #[.bool false, .slice none 0 0] k).toList, ∀ z, u ≠ .int .u32 z := by
    intro k u hu z
    rcases mem_zeroCells hu with rfl | rfl <;> simp
  have h63 : n + 1 ≤ maxLen := by unfold maxLen; omega
  obtain ⟨v', w', hr, h2, h3, h4⟩ := run_append_own (P := P) w base t o.type e i _ 2 32 ht hi hz hsize hby rfl (by decide) v n xs hown.1 ⟨b, 0, none⟩ 1 c [.bool b0, .slice m0 l0 c0] (by rw [hl, hsize]) hnews h1 h63 (by omega) hbase
  have hp : (∀ g cur tt fr, v'.ownBlock = some g → w'.heap[g]? = some (.cells cur tt fr) → ∀ u ∈ cur.toList, ∀ z, u ≠ .int .u32 z) ∧ (v'.ownBlock = v.ownBlock ∨ v'.ownBlock = some w.heap.size) := by
    rcases hown.1.2 with ⟨rfl, rfl⟩ | ⟨g0, cap, cur0, rfl, hbg, hg0, hnc, hcm, hcs, htake⟩
    · have hr' := run_append_nil (P := P) w t o.type e i _ ht hi hz ⟨b, 0, none⟩ 1 c [.bool b0, .slice m0 l0 c0] hl hnews (by decide) (by decide) (by rw [hby]; decide)
      rw [hr'] at hr
      simp only [Result.ok.injEq] at hr
      obtain ⟨rfl, rfl⟩ := hr
      refine ⟨?_, .inr rfl⟩
      intro g cur tt fr hg hh u hu z
      have e : w.heap.size = g := by simpa [Value.ownBlock] using hg
      subst e
      rw [show (w.heap.size : Nat) = w.drew.heap.size from rfl, heap_alloc_new] at hh
      simp only [Option.some.injEq, Obj.cells.injEq] at hh
      obtain ⟨rfl, _⟩ := hh
      rw [Array.toList_append] at hu
      rcases List.mem_append.1 hu with hu | hu
      · exact hnu u (by simpa using hu) z
      · exact hzn _ u hu z
    · have hall := hown.2 g0 cur0 e (0, 0) rfl hg0
      by_cases hroom : n + 1 ≤ cap
      · have hfit : n * i.size + ([.bool b0, .slice m0 l0 c0] : List Value).length ≤ cur0.size := by rw [hsize, hcs]; show n * 2 + 2 ≤ cap * 2; omega
        have hr' := run_append_room (P := P) w t o.type e i ht hi g0 n cap cur0 hg0 ⟨b, 0, none⟩ 1 c [.bool b0, .slice m0 l0 c0] hl hnews h1 hroom hfit
        rw [hr'] at hr
        simp only [Result.ok.injEq] at hr
        obtain ⟨rfl, rfl⟩ := hr
        refine ⟨?_, .inl rfl⟩
        intro g cur tt fr hg hh u hu z
        have e : g0 = g := by simpa [Value.ownBlock] using hg
        subst e
        rw [setRow_heap w g0 cur0 _ _ _ hg0] at hh
        simp only [Option.some.injEq, Obj.cells.injEq] at hh
        obtain ⟨rfl, _⟩ := hh
        simp only [List.mem_append] at hu
        rcases hu with (hu | hu) | hu
        · exact hall u (List.mem_of_mem_take hu) z
        · exact hnu u hu z
        · exact hall u (List.mem_of_mem_drop hu) z
      · have holds : ∀ j u, xs[j]? = some u → w.cell? ((⟨g0, 0, none⟩ : Addr).add j) = some u := hown.1.cells (g := g0) rfl
        have hr' := run_append_grow (P := P) w t o.type e i _ ht hi hz ⟨g0, 0, none⟩ n cap xs (by rw [hsize]; exact hown.1.1) holds ⟨b, 0, none⟩ 1 c [.bool b0, .slice m0 l0 c0] hl hnews (by omega) (by omega) (growslice_fits (by omega) (by rw [hby]; omega))
        rw [hr'] at hr
        simp only [Result.ok.injEq] at hr
        obtain ⟨rfl, rfl⟩ := hr
        refine ⟨?_, .inr rfl⟩
        intro g cur tt fr hg hh u hu z
        have e : w.heap.size = g := by simpa [Value.ownBlock] using hg
        subst e
        rw [show (w.heap.size : Nat) = w.drew.heap.size from rfl, heap_alloc_new] at hh
        simp only [Option.some.injEq, Obj.cells.injEq] at hh
        obtain ⟨rfl, _⟩ := hh
        simp only [Array.toList_append, List.mem_append] at hu
        rcases hu with (hu | hu) | hu
        · rw [← htake] at hu; exact hall u (List.mem_of_mem_take (by simpa using hu)) z
        · exact hnu u (by simpa using hu) z
        · exact hzn _ u hu z
  unfold Oper.wp execOp
  simp only [ho, resolve, invoke, builtin, Sem.run_bind, Sem.run_pure, Result.andThen_ok, List.map_toArray, List.map_cons, List.map_nil, hs, hx, hr]
  exact h v' w' ⟨h2, hp.1⟩ h3 hp.2
end Go.Proofs.Ytngdnekbajnomaa
