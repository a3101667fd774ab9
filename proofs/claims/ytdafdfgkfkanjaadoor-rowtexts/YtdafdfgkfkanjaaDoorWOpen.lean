/- lists of numbers that came in. -/
import Derived.Test.YtdafdfgkfkanjaaDoorWOf
import Derived.Test.YtdafdfgkfkanjaaDoorRow
import Derived.Deep.SlicePairs
import Derived.SizedLaws
namespace Go.Proofs.YtdafdfgkfkanjaaDoor
open Go.RowKit Go.ChangeShapes Go.WideShapes

theorem weightsAll_mem {H : Type} {P : Program} {e : TypeId} : ∀ {l : List (DataW H)} {i : Nat} {d : DataW H}, l[i]? = some d → ∀ n ∈ d.weights P e, n ∈ DataW.weightsAll P e l
  | d0 :: r, 0, d, h, n, hn => by
    simp only [List.getElem?_cons_zero, Option.some.injEq] at h
    subst h
    simp only [DataW.weightsAll, List.mem_append]
    exact .inl hn
  | d0 :: r, i + 1, d, h, n, hn => by
    simp only [List.getElem?_cons_succ] at h
    simp only [DataW.weightsAll, List.mem_append]
    exact .inr (weightsAll_mem h n hn)
  | [], _, _, h, _, _ => by simp at h
theorem add_none2 (b off i : Nat) : (⟨b, off, none⟩ : Addr).add i = ⟨b, off + i, none⟩ := by unfold Addr.add; split <;> simp_all

theorem weights_num {H : Type} (x y : DataW H) : DataW.weights Tryd.prog 49 (DataW.agg [x, y]) = DataW.weightsEach Tryd.prog [4, 47] [x, y] := by
  simp only [DataW.weights, Tryd.underlying49]
  rfl
theorem open_nums {H : Type} {enc : TypeId × Value → H} {W : World} {base : Nat} {a : Option Addr} {len cap : Nat} {d : DataW H} {p : List MemPlace}
    (h : DataW.Trod enc Tryd.prog W base (fun _ => true) true 22 (.slice a len cap) d p) (hw : ∀ n ∈ d.weights Tryd.prog 22, n ≤ reachBytes) :
    ∃ ns : List (Bool × List Nat), NumL W (.slice a len cap) ns := by
  obtain ⟨fuel, hf⟩ := h
  have hr : reachBytes = 140737488351232 := rfl
  rcases Go.Deep.open_slice_pairs Tryd.underlying22 Tryd.underlying49 (by kernel_rfl) rfl rfl (by kernel_rfl) (by kernel_rfl) hf with ⟨hcs, _⟩ | ⟨x, l, c, m, n, V0, V1, D0, D1, P0, P1, hcs, _, hl, hm, hmm, hd, hx⟩
  · simp [Value.cells] at hcs
    obtain ⟨rfl, rfl, rfl⟩ := hcs
    exact ⟨[], none, 0, rfl, Nat.le_refl _, Nat.zero_le _, fun i => by simp, fun h => absurd rfl h⟩
  · simp [Value.cells] at hcs
    obtain ⟨rfl, rfl, rfl⟩ := hcs
    simp only [if_true] at hmm
    subst hmm
    simp only [Prod.mk.injEq] at hd
    obtain ⟨rfl, rfl⟩ := hd
    have hcap : m ≤ 140737488355328 := by
      have := hw ((((List.range len).map fun i => DataW.agg [D0 i, D1 i]).length + ((List.range (m - len)).map fun j => DataW.agg [D0 (len + j), D1 (len + j)]).length) * Tryd.prog.bytesOf 49) (by simp only [DataW.weights, Tryd.underlying22]; exact List.mem_cons_self ..)
      rw [show Tryd.prog.bytesOf 49 = 32 by kernel_rfl] at this
      simp only [List.length_map, List.length_range] at this
      omega
    have each : ∀ i, i < len → ∃ q : Bool × List Nat, V0 i = .bool q.1 ∧ (∃ m' c', V1 i = .slice m' q.2.length c' ∧ Nums W (.slice m' q.2.length c') q.2) ∧ q.2.length ≤ 140737488355328 := by
      intro i hi
      obtain ⟨_, _, h0, h1⟩ := hx i (by omega)
      obtain ⟨b, e0, _⟩ := DataW.trod_bool Tryd.underlying4 h0
      simp only [List.cons.injEq, and_true] at e0
      rcases open_ints Tryd.underlying47 Tryd.underlying74 (by kernel_rfl) h1 with ⟨hcs, _⟩ | ⟨y, l', c', zs, hcs, _, hl', hm', hz, hdd, hcell, hwz⟩
      · simp only [List.cons.injEq, and_true] at hcs
        exact ⟨(b, []), e0, ⟨none, 0, hcs, Nums.nil_mk _ _ _ (Nat.zero_le _)⟩, Nat.zero_le _⟩
      · simp only [List.cons.injEq, and_true] at hcs
        obtain ⟨xs, hxl, hxn⟩ := isrow_nums (w := W) (a := some y) (len := l') (cap := c') (zs := zs) (.inr ⟨_, rfl, hl', hm', by simpa using hz, hcell, hwz⟩)
        refine ⟨(b, xs), e0, ⟨some y, c', by rw [hcs, hxl], by rw [hxl]; exact hxn⟩, ?_⟩
        have hdi : ((List.range len).map fun i => DataW.agg [D0 i, D1 i])[i]? = some (DataW.agg [D0 i, D1 i]) := by simp [hi]
        simp only [Prod.mk.injEq] at hdd
        have hz' : zs.length = c' := by simpa using hz
        have := hw (((lits .u32 (zs.take l') : List (DataW H)).length + (lits .u32 (zs.drop l') : List (DataW H)).length) * Tryd.prog.bytesOf 74) (by
          simp only [DataW.weights, Tryd.underlying22, List.mem_cons, List.mem_append]
          refine .inr (.inl (weightsAll_mem hdi _ ?_))
          rw [weights_num]
          simp only [DataW.weightsEach, List.mem_append]
          refine .inr (.inl ?_)
          rw [hdd.1]
          simp only [DataW.weights, Tryd.underlying47]
          exact List.mem_cons_self ..)
        rw [show Tryd.prog.bytesOf 74 = 4 by kernel_rfl] at this
        simp only [lits, List.length_map, List.length_take, List.length_drop] at this
        show xs.length ≤ _
        omega
    obtain ⟨q, hq⟩ := Go.Deep.choose_lt each
    have hlen : ((List.range len).map q).length = len := by simp
    have hget : ∀ i, i < len → ((List.range len).map q).getD i (false, []) = q i := fun i hi => by simp [hi]
    obtain ⟨b, off, sp⟩ := x
    refine ⟨(List.range len).map q, some ⟨b, off, sp⟩, m, by rw [hlen], by rw [hlen]; exact hl, hcap, fun i => ?_, fun hne => ?_⟩
    · rcases Nat.lt_or_ge i len with hi | hi
      · rw [hget i hi]; exact (hq i hi).2.2
      · rw [List.getD_eq_getElem?_getD, List.getElem?_eq_none (by simpa using hi)]; simp
    · have h0 : 0 < len := by
        rcases Nat.eq_zero_or_pos len with h | h
        · exact absurd (List.eq_nil_of_length_eq_zero (by rw [hlen]; exact h)) hne
        · exact h
      have hsp : sp = none := by simpa [Addr.add] using World.cell?_spot (hx 0 (by omega)).1
      subst hsp
      refine ⟨b, off, rfl, fun i hi => ?_⟩
      rw [hlen] at hi
      rw [hget i hi]
      obtain ⟨g0, ⟨m', c', g1, g2⟩, _⟩ := hq i hi
      have k0 := (hx i (by omega)).1
      have k1 := (hx i (by omega)).2.1
      rw [add_none2] at k0 k1
      exact ⟨m', c', by rw [k0, g0], by rw [← Nat.add_assoc] at k1; rw [k1, g1], g2⟩
end Go.Proofs.YtdafdfgkfkanjaaDoor
