/- two lists of numbers and two numbers that came in as one struct. -/
import Derived.Test.YtngdnekbajnomaaMem
import Derived.OpenShut
import Derived.Test.YtngdnekbajnomaaWOf
import Derived.Deep.SlicePairs
import Derived.SizedLaws
import Derived.Lib.SmallJoins
namespace Go.Proofs.Ytngdnekbajnomaa
open Go.RowKit

/-- a slice of integers that came in -/
def IsRow (k : IntKind) (w : World) (a : Option Addr) (len cap : Nat) (zs : List Int) : Prop :=
  (a = none ∧ len = 0 ∧ cap = 0 ∧ zs = []) ∨
  ∃ x, a = some x ∧ len ≤ cap ∧ cap ≤ maxLen ∧ zs.length = cap ∧ (∀ i, i < zs.length → w.cell? (x.add i) = some (.int k (zs.getD i 0))) ∧ ∀ n ∈ zs, (Lit.int k n).wf = true

theorem isrow_nums {w : World} {a : Option Addr} {len cap : Nat} {zs : List Int} (h : IsRow .u32 w a len cap zs) : ∃ xs : List Nat, xs.length = len ∧ Nums w (.slice a len cap) xs := by
  rcases h with ⟨rfl, rfl, rfl, rfl⟩ | ⟨x, rfl, hl, hm, hz, hc, hw⟩
  · exact ⟨[], rfl, Nums.nil_mk _ _ _ (Nat.zero_le _)⟩
  · have hb : ∀ z ∈ zs, 0 ≤ z ∧ z < 4294967296 := by
      intro z hz'
      have := bounds_u32 (hw z hz')
      omega
    refine ⟨(zs.take len).map Int.toNat, by simp; omega, ?_, some x, cap, by simp; omega, by simp; omega, hm, fun hne => ?_⟩
    · intro y hy
      obtain ⟨z, hz1, rfl⟩ := List.mem_map.1 hy
      have := hb z (List.mem_of_mem_take hz1)
      unfold BB; omega
    · have hlen : 0 < len := by
        rcases Nat.eq_zero_or_pos len with h0 | h0
        · subst h0; simp at hne
        · exact h0
      obtain ⟨b, off, spot⟩ := x
      have h0 := hc 0 (by omega)
      have hspot : spot = none := by simpa [Addr.add] using World.cell?_spot h0
      subst hspot
      refine ⟨b, off, rfl, fun i hi => ?_⟩
      have hi' : i < len := by simp at hi; omega
      have hci := hc i (by omega)
      have hadd : (⟨b, off, none⟩ : Addr).add i = ⟨b, off + i, none⟩ := by unfold Addr.add; split <;> simp_all
      rw [hadd] at hci
      rw [hci]
      have hzi : i < zs.length := by omega
      have := hb zs[i] (List.getElem_mem hzi)
      simp [lm, hi', hzi]
      omega
end Go.Proofs.Ytngdnekbajnomaa

namespace Go.Proofs.Ytngdnekbajnomaa
open Go.RowKit Go.ChangeShapes Go.WideShapes

theorem weightsAll_mem {H : Type} {P : Program} {e : TypeId} : ∀ {l : List (DataW H)} {i : Nat} {d : DataW H}, l[i]? = some d → ∀ n ∈ d.weights P e, n ∈ DataW.weightsAll P e l
  | d0 :: r, 0, d, h, n, hn => by
    simp only [List.getElem?_cons_zero, Option.some.injEq] at h
    subst h
    simp only [DataW.weightsAll, List.mem_append]
    exact .inl hn
  | d0 :: r, i + 1, d, h, n, hn => by
    simp only [List.getElem?_cons_succ] at h
    simp only [DataW.weightsAll, List.mem_append]
    exact .inr (weightsAll_mem h n hn)
  | [], _, _, h, _, _ => by simp at h
theorem add_none2 (b off i : Nat) : (⟨b, off, none⟩ : Addr).add i = ⟨b, off + i, none⟩ := by unfold Addr.add; split <;> simp_all

theorem weights_num {H : Type} (x y : DataW H) : DataW.weights Try.prog 25 (DataW.agg [x, y]) = DataW.weightsEach Try.prog [4, 23] [x, y] := by
  simp only [DataW.weights, Try.underlying25]
  rfl
theorem open_nums {H : Type} {enc : TypeId × Value → H} {W : World} {base : Nat} {a : Option Addr} {len cap : Nat} {d : DataW H} {p : List MemPlace}
    (h : DataW.Trod enc Try.prog W base (fun _ => true) true 22 (.slice a len cap) d p) (hw : ∀ n ∈ d.weights Try.prog 22, n ≤ reachBytes) :
    ∃ ns : List (Bool × List Nat), NumL W (.slice a len cap) ns := by
  obtain ⟨fuel, hf⟩ := h
  have hr : reachBytes = 140737488351232 := rfl
  rcases Go.Deep.open_slice_pairs Try.underlying22 Try.underlying25 (by kernel_rfl) rfl rfl (by kernel_rfl) (by kernel_rfl) hf with ⟨hcs, _⟩ | ⟨x, l, c, m, n, V0, V1, D0, D1, P0, P1, hcs, _, hl, hm, hmm, hd, hx⟩
  · simp [Value.cells] at hcs
    obtain ⟨rfl, rfl, rfl⟩ := hcs
    exact ⟨[], none, 0, rfl, Nat.le_refl _, Nat.zero_le _, fun i => by simp, fun h => absurd rfl h⟩
  · simp [Value.cells] at hcs
    obtain ⟨rfl, rfl, rfl⟩ := hcs
    simp only [if_true] at hmm
    subst hmm
    simp only [Prod.mk.injEq] at hd
    obtain ⟨rfl, rfl⟩ := hd
    have hcap : m ≤ 140737488355328 := by
      have := hw ((((List.range len).map fun i => DataW.agg [D0 i, D1 i]).length + ((List.range (m - len)).map fun j => DataW.agg [D0 (len + j), D1 (len + j)]).length) * Try.prog.bytesOf 25) (by simp only [DataW.weights, Try.underlying22]; exact List.mem_cons_self ..)
      rw [show Try.prog.bytesOf 25 = 32 by kernel_rfl] at this
      simp only [List.length_map, List.length_range] at this
      omega
    have each : ∀ i, i < len → ∃ q : Bool × List Nat, V0 i = .bool q.1 ∧ (∃ m' c', V1 i = .slice m' q.2.length c' ∧ Nums W (.slice m' q.2.length c') q.2) ∧ q.2.length ≤ 140737488355328 := by
      intro i hi
      obtain ⟨_, _, h0, h1⟩ := hx i (by omega)
      obtain ⟨b, e0, _⟩ := DataW.trod_bool Try.underlying4 h0
      simp only [List.cons.injEq, and_true] at e0
      rcases open_ints Try.underlying23 Try.underlying63 (by kernel_rfl) h1 with ⟨hcs, _⟩ | ⟨y, l', c', zs, hcs, _, hl', hm', hz, hdd, hcell, hwz⟩
      · simp only [List.cons.injEq, and_true] at hcs
        exact ⟨(b, []), e0, ⟨none, 0, hcs, Nums.nil_mk _ _ _ (Nat.zero_le _)⟩, Nat.zero_le _⟩
      · simp only [List.cons.injEq, and_true] at hcs
        obtain ⟨xs, hxl, hxn⟩ := isrow_nums (w := W) (a := some y) (len := l') (cap := c') (zs := zs) (.inr ⟨_, rfl, hl', hm', by simpa using hz, hcell, hwz⟩)
        refine ⟨(b, xs), e0, ⟨some y, c', by rw [hcs, hxl], by rw [hxl]; exact hxn⟩, ?_⟩
        have hdi : ((List.range len).map fun i => DataW.agg [D0 i, D1 i])[i]? = some (DataW.agg [D0 i, D1 i]) := by simp [hi]
        simp only [Prod.mk.injEq] at hdd
        have hz' : zs.length = c' := by simpa using hz
        have := hw (((lits .u32 (zs.take l') : List (DataW H)).length + (lits .u32 (zs.drop l') : List (DataW H)).length) * Try.prog.bytesOf 63) (by
          simp only [DataW.weights, Try.underlying22, List.mem_cons, List.mem_append]
          refine .inr (.inl (weightsAll_mem hdi _ ?_))
          rw [weights_num]
          simp only [DataW.weightsEach, List.mem_append]
          refine .inr (.inl ?_)
          rw [hdd.1]
          simp only [DataW.weights, Try.underlying23]
          exact List.mem_cons_self ..)
        rw [show Try.prog.bytesOf 63 = 4 by kernel_rfl] at this
        simp only [lits, List.length_map, List.length_take, List.length_drop] at this
        show xs.length ≤ _
        omega
    obtain ⟨q, hq⟩ := Go.Deep.choose_lt each
    have hlen : ((List.range len).map q).length = len := by simp
    have hget : ∀ i, i < len → ((List.range len).map q).getD i (false, []) = q i := fun i hi => by simp [hi]
    obtain ⟨b, off, sp⟩ := x
    refine ⟨(List.range len).map q, some ⟨b, off, sp⟩, m, by rw [hlen], by rw [hlen]; exact hl, hcap, fun i => ?_, fun hne => ?_⟩
    · rcases Nat.lt_or_ge i len with hi | hi
      · rw [hget i hi]; exact (hq i hi).2.2
      · rw [List.getD_eq_getElem?_getD, List.getElem?_eq_none (by simpa using hi)]; simp
    · have h0 : 0 < len := by
        rcases Nat.eq_zero_or_pos len with h | h
        · exact absurd (List.eq_nil_of_length_eq_zero (by rw [hlen]; exact h)) hne
        · exact h
      have hsp : sp = none := by simpa [Addr.add] using World.cell?_spot (hx 0 (by omega)).1
      subst hsp
      refine ⟨b, off, rfl, fun i hi => ?_⟩
      rw [hlen] at hi
      rw [hget i hi]
      obtain ⟨g0, ⟨m', c', g1, g2⟩, _⟩ := hq i hi
      have k0 := (hx i (by omega)).1
      have k1 := (hx i (by omega)).2.1
      rw [add_none2] at k0 k1
      exact ⟨m', c', by rw [k0, g0], by rw [← Nat.add_assoc] at k1; rw [k1, g1], g2⟩
end Go.Proofs.Ytngdnekbajnomaa

namespace Go.Proofs.Ytngdnekbajnomaa
open Go.RowKit Go.ChangeShapes Go.WideShapes Go.Joins

theorem array6 {α : Type} {cs : Array α} (h : cs.size = 6) : ∃ c0 c1 c2 c3 c4 c5, cs = #[c0, c1, c2, c3, c4, c5] := by
  obtain ⟨l⟩ := cs
  match l, h with
  | [c0, c1, c2, c3, c4, c5], _ => exact ⟨c0, c1, c2, c3, c4, c5, rfl⟩
theorem weights_two {H : Type} (x y z u : DataW H) : DataW.weights Try.prog 27 (DataW.agg [x, y, z, u]) = DataW.weightsEach Try.prog [22, 22, 25, 25] [x, y, z, u] := by
  simp only [DataW.weights, Try.underlying27]
  rfl
theorem open_numsC {H : Type} {enc : TypeId × Value → H} {W : World} {base n : Nat} {c : Value} {y : DataW H × List MemPlace}
    (h : DataW.trod enc Try.prog W base (fun _ => true) true n 22 [c] = some y) (hw : ∀ k ∈ y.1.weights Try.prog 22, k ≤ reachBytes) :
    ∃ a cap, ∃ ns : List (Bool × List Nat), c = .slice a ns.length cap ∧ NumL W (.slice a ns.length cap) ns := by
  obtain ⟨a, len, cap, rfl⟩ : ∃ a len cap, c = .slice a len cap := by
    rcases Go.Deep.open_slice_pairs Try.underlying22 Try.underlying25 (by kernel_rfl) rfl rfl (by kernel_rfl) (by kernel_rfl) h with ⟨hcs, _⟩ | ⟨x, l, c', m, k, V0, V1, D0, D1, P0, P1, hcs, _⟩
    · simp only [List.cons.injEq, and_true] at hcs; exact ⟨_, _, _, hcs⟩
    · simp only [List.cons.injEq, and_true] at hcs; exact ⟨_, _, _, hcs⟩
  obtain ⟨ns, hn⟩ := open_nums (d := y.1) (p := y.2) ⟨n, h⟩ hw
  have hl : len = ns.length := by obtain ⟨a', c', he, _⟩ := hn; simp only [Value.slice.injEq] at he; exact he.2.1
  subst hl
  exact ⟨a, cap, ns, rfl, hn⟩
theorem open_numC {H : Type} {enc : TypeId × Value → H} {W : World} {base n : Nat} {c c' : Value} {y : DataW H × List MemPlace}
    (h : DataW.trod enc Try.prog W base (fun _ => true) true n 25 [c, c'] = some y) (hw : ∀ k ∈ y.1.weights Try.prog 25, k ≤ reachBytes) :
    ∃ b a cap, ∃ xs : List Nat, c = .bool b ∧ c' = .slice a xs.length cap ∧ Nums W (.slice a xs.length cap) xs ∧ xs.length ≤ 140737488355328 := by
  have hr : reachBytes = 140737488351232 := rfl
  obtain ⟨z0, z1, m, rfl, _, h0, h1⟩ := trod_struct2 Try.underlying25 h
  have k0 : Try.prog.cellsOf 4 = 1 := by kernel_rfl
  have k1 : Try.prog.cellsOf 23 = 1 := by kernel_rfl
  simp only [k0, List.drop_zero, List.take_succ_cons, List.take_zero] at h0
  simp only [k1, List.drop_succ_cons, List.drop_zero, List.take_succ_cons, List.take_zero] at h1
  obtain ⟨b, e0, _⟩ := DataW.trod_bool Try.underlying4 h0
  simp only [List.cons.injEq, and_true] at e0
  rcases open_ints Try.underlying23 Try.underlying63 (by kernel_rfl) h1 with ⟨hcs, _⟩ | ⟨y, l', c2, zs, hcs, _, hl', hm', hz, hdd, hcell, hwz⟩
  · simp only [List.cons.injEq, and_true] at hcs
    exact ⟨b, none, 0, [], e0, hcs, Nums.nil_mk _ _ _ (Nat.zero_le _), Nat.zero_le _⟩
  · simp only [List.cons.injEq, and_true] at hcs
    obtain ⟨xs, hxl, hxn⟩ := isrow_nums (w := W) (a := some y) (len := l') (cap := c2) (zs := zs) (.inr ⟨_, rfl, hl', hm', by simpa using hz, hcell, hwz⟩)
    refine ⟨b, some y, c2, xs, e0, by rw [hcs, hxl], by rw [hxl]; exact hxn, ?_⟩
    subst hdd
    have hz' : zs.length = c2 := by simpa using hz
    have := hw (((lits .u32 (zs.take l') : List (DataW H)).length + (lits .u32 (zs.drop l') : List (DataW H)).length) * Try.prog.bytesOf 63) (by
      show _ ∈ DataW.weights Try.prog 25 (DataW.agg [z0.1, _])
      rw [weights_num]
      simp only [DataW.weightsEach, List.mem_append]
      refine .inr (.inl ?_)
      simp only [DataW.weights, Try.underlying23]
      exact List.mem_cons_self ..)
    rw [show Try.prog.bytesOf 63 = 4 by kernel_rfl] at this
    simp only [lits, List.length_map, List.length_take, List.length_drop] at this
    omega
set_option maxRecDepth 100000 in
theorem open_two {H : Type} {enc : TypeId × Value → H} {W : World} {base b0 : Nat} {v : Value} {d : DataW H} {p : List MemPlace} (hv : Value.okWide Try.prog W .any b0 27 v)
    (h : DataW.Trod enc Try.prog W base (fun _ => true) true 27 v d p) (hw : ∀ n ∈ d.weights Try.prog 27, n ≤ reachBytes) :
    ∃ (aa ab mc md : Option Addr) (ca cb cc cd : Nat) (cn dn : Bool) (ns ms : List (Bool × List Nat)) (xc xd : List Nat),
      v = .agg #[.slice aa ns.length ca, .slice ab ms.length cb, .bool cn, .slice mc xc.length cc, .bool dn, .slice md xd.length cd] ∧
      NumL W (.slice aa ns.length ca) ns ∧ NumL W (.slice ab ms.length cb) ms ∧ Nums W (.slice mc xc.length cc) xc ∧ Nums W (.slice md xd.length cd) xd ∧ xc.length ≤ 140737488355328 ∧ xd.length ≤ 140737488355328 := by
  obtain ⟨cs, rfl, hsz⟩ := okWide_struct Try.underlying27 hv
  have h6 : Try.prog.cellsOf 27 = 6 := by kernel_rfl
  obtain ⟨c0, c1, c2, c3, c4, c5, rfl⟩ := array6 (hsz.trans h6)
  obtain ⟨fuel, hf⟩ := h
  obtain ⟨y0, y1, y2, y3, n, hx, _, h0, h1, h2, h3⟩ := trod_struct4 Try.underlying27 hf
  simp only [Prod.mk.injEq] at hx
  obtain ⟨rfl, rfl⟩ := hx
  have k1 : Try.prog.cellsOf 22 = 1 := by kernel_rfl
  have k2 : Try.prog.cellsOf 25 = 2 := by kernel_rfl
  simp only [Value.cells, k1, k2, List.drop_succ_cons, List.drop_zero, List.take_succ_cons, List.take_zero] at h0 h1 h2 h3
  rw [weights_two] at hw
  obtain ⟨aa, ca, ns, rfl, n1⟩ := open_numsC h0 (fun k hk => hw k (DataW.weights_mem_each (j := 0) rfl rfl k hk))
  obtain ⟨ab, cb, ms, rfl, n2⟩ := open_numsC h1 (fun k hk => hw k (DataW.weights_mem_each (j := 1) rfl rfl k hk))
  obtain ⟨cn, mc, cc, xc, rfl, rfl, n3, l3⟩ := open_numC h2 (fun k hk => hw k (DataW.weights_mem_each (j := 2) rfl rfl k hk))
  obtain ⟨dn, md, cd, xd, rfl, rfl, n4, l4⟩ := open_numC h3 (fun k hk => hw k (DataW.weights_mem_each (j := 3) rfl rfl k hk))
  exact ⟨aa, ab, mc, md, ca, cb, cc, cd, cn, dn, ns, ms, xc, xd, rfl, n1, n2, n3, n4, l3, l4⟩
end Go.Proofs.Ytngdnekbajnomaa
