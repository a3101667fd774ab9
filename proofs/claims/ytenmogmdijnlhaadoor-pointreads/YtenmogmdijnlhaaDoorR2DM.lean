/- The document's answers for layer 2 (swageref02): DivMod. -/
import Derived.Test.YtenmogmdijnlhaaDoorR2Divide
import Derived.Test.YtenmogmdijnlhaaDoorIDivM
import Derived.Deep.Cut
import Derived.Test.YtenmogmdijnlhaaDoorIRead
namespace Go.Proofs.YtenmogmdijnlhaaDoor
open Go.RowKit

theorem RInt.cells {w : World} {v : Value} {z : Int} (h : RInt w v z) : ∃ s m n c, v = .agg #[.bool s, .slice m n c] ∧ RInt w (.agg #[.bool s, .slice m n c]) z := by
  have h' := h
  obtain ⟨s, n, m, c, rfl, _, _, _⟩ := h'
  exact ⟨s, m, _, c, rfl, h⟩
theorem RInt.len {w : World} {s : Bool} {m : Option Addr} {n c : Nat} {z : Int} (h : RInt w (.agg #[.bool s, .slice m n c]) z) : (z = 0 → n = 0) ∧ (z ≠ 0 → 0 < n) ∧ c ≤ maxLen ∧ n ≤ c := by
  obtain ⟨b, k, a, c', he, hn, rfl, h0⟩ := h
  simp only [Value.agg.injEq, Array.mk.injEq, List.cons.injEq, Value.bool.injEq, Value.slice.injEq, and_true] at he
  obtain ⟨rfl, rfl, rfl, rfl⟩ := he
  obtain ⟨_, a', c'', he, h1, h2, _⟩ := hn
  simp only [Value.slice.injEq] at he
  obtain ⟨_, _, rfl⟩ := he
  refine ⟨fun h => ?_, fun h => ?_, h2, h1⟩
  · have : k = 0 := by have := congrArg Int.natAbs h; rw [sg_abs] at this; simpa using this
    rw [this]; rfl
  · rcases Nat.eq_zero_or_pos k with e | e
    · rw [e, sg_zero] at h; exact absurd rfl h
    · rw [D.lim_pos e]; simp
theorem RInt.neg {w : World} {s : Bool} {l : Value} {z : Int} (h : RInt w (.agg #[.bool s, l]) z) : (s = true → z < 0) ∧ (z < 0 → s = true) := by
  obtain ⟨b, n, a, c, he, _, rfl, h0⟩ := h
  simp only [Value.agg.injEq, Array.mk.injEq, List.cons.injEq, Value.bool.injEq, and_true] at he
  obtain ⟨rfl, _⟩ := he
  cases s with
  | true => have : n ≠ 0 := fun e => absurd (h0 e) (by decide)
            rw [sg_true]; exact ⟨fun _ => by omega, fun _ => rfl⟩
  | false => rw [sg_false]; exact ⟨fun h => absurd h (by decide), fun h => by omega⟩
theorem nboxes4 (t : TypeId) (w : World) (x y x' y' x'' y'' u v : Value) : ∀ W, W = (((w.alloc (.cells #[x, y] t)).alloc (.cells #[x', y'] t)).alloc (.cells #[x'', y''] t)).alloc (.cells #[u, v] t) →
    Box2 W w.heap.size t x y ∧ Box2 W (w.heap.size + 1) t x' y' ∧ Box2 W (w.heap.size + 1 + 1) t x'' y'' ∧ Box2 W (w.heap.size + 1 + 1 + 1) t u v ∧ Below w.heap.size w W := by
  rintro W rfl
  have h := nboxes3 t w x y x' y' x'' y''
  have hb := below_alloc (((w.alloc (.cells #[x, y] t)).alloc (.cells #[x', y'] t)).alloc (.cells #[x'', y''] t)) (.cells #[u, v] t)
  refine ⟨h.1.step hb, h.2.1.step hb, h.2.2.1.step hb, ?_, h.2.2.2.trans (hb.mono (by simp; omega))⟩
  have := Box2.new (((w.alloc (.cells #[x, y] t)).alloc (.cells #[x', y'] t)).alloc (.cells #[x'', y''] t)) t u v
  simpa only [World.size_alloc] using this
theorem ret_two {fn : Func} {R : Ending → World → Prop} {a : Act} {w : World} {p q : Tmp} (h : fn.results = #[.cell p 61, .cell q 61]) (g g' : Nat) (x y x' y' : Value)
    (hp : a.tmps.getD p undef = .pointer (some ⟨g, 0, none⟩)) (hq : a.tmps.getD q undef = .pointer (some ⟨g', 0, none⟩)) (hg : Box2 w g 61 x y) (hg' : Box2 w g' 61 x' y') (hd : a.defers = []) (hR : R (.returned (.tuple #[.agg #[x, y], .agg #[x', y']])) w) : bodyPost Tryd.prog fn R .ret a w := by
  refine bodyPost_ret ?_ hd hR
  have hp' : a.tmps[p]?.getD undef = .pointer (some ⟨g, 0, none⟩) := by simpa using hp
  have hq' : a.tmps[q]?.getD undef = .pointer (some ⟨g', 0, none⟩) := by simpa using hq
  simp [results, h, hp', hq', asAddr, run_loadVar_row w g 61 61 #[x, y] (0, 0) _ hg Tryd.underlying61 rfl Tryd.infoRef, run_loadVar_row w g' 61 61 #[x', y'] (0, 0) _ hg' Tryd.underlying61 rfl Tryd.infoRef]
theorem sgn_dlen (z : Int) : (D.lim (sgnI z).natAbs).length ≤ 100000000 := Nat.le_trans (D.lim_length_le (k := 1) (by unfold sgnI D.BB; split; decide; split <;> decide)) (by decide)

set_option maxRecDepth 100000 in
set_option maxHeartbeats 8000000 in
theorem rdm_any (v1 v2 : Value) (x y : Int) (w : World) (h1 : RInt w v1 x) (h2 : RInt w v2 y) (l1 : (D.lim x.natAbs).length ≤ 10000000) (l2 : (D.lim y.natAbs).length ≤ 10000000) (hy : y ≠ 0) :
    Calls Tryd.prog 86 #[v1, v2] w fun e w' => ∃ q r, e = .returned (.tuple #[q, r]) ∧ RInt w' q (x / y) ∧ RInt w' r (x % y) ∧ Below w.heap.size w w' := by
  have Y2 := hide h2
  obtain ⟨b1, n1, a1, c1, rfl, hn1, rfl, h01⟩ := h1
  obtain ⟨b2, n2, a2, c2, rfl, hn2, rfl, h02⟩ := h2
  replace hy : 0 < n2 := by rcases Nat.eq_zero_or_pos n2 with h | h; exact absurd (by rw [h, sg_zero]) hy; exact h
  rw [sg_abs] at l1 l2
  have HE := hide (nboxes4 61 w (.bool b1) (.slice a1 (D.lim n1).length c1) (.bool b2) (.slice a2 (D.lim n2).length c2) (.bool false) (.slice none 0 0) (.bool false) (.slice none 0 0) _ rfl)
  have HN1 := hide (hn1.below HE.out.2.2.2.2)
  have HN2 := hide (hn2.below HE.out.2.2.2.2)
  have LQ : Hid ((D.lim (sg (b1 != b2) (n1 / n2)).natAbs).length ≤ 100000000) := hide (by rw [sg_abs]; exact Nat.le_trans (dlen_mono (Nat.div_le_self _ _)) (by omega))
  have LR : Hid ((D.lim (sg b1 (n1 % n2)).natAbs).length ≤ 100000000) := hide (by rw [sg_abs]; exact Nat.le_trans (dlen_mono (Nat.mod_le _ _)) (by omega))
  have LY : Hid ((D.lim (sg b2 n2).natAbs).length ≤ 100000000) := hide (by rw [sg_abs]; omega)
  clear hn1 h01 hn2 h02
  go_enter Tryd.func86, Tryd.ntmps86
  go_wp2_with fail
  refine (rdivide_any _ _ n1 n2 _ HN1.out HN2.out hy l1 l2).mono ?_
  rintro e w1 ⟨lq, lr, rfl, nq, nr, hb⟩
  have HB := hide (HE.out.2.2.2.2.trans (hb.mono HE.out.2.2.2.2.size))
  have P0 := hide (HE.out.1.step hb)
  have P1 := hide (HE.out.2.1.step hb)
  have P2 := hide (HE.out.2.2.1.step hb)
  have P3 := hide (HE.out.2.2.2.1.step hb)
  have NQ := hide nq
  have NR := hide nr
  clear hb HE HN1 HN2 nq nr l1 l2
  generalize (D.lim n1).length = L1 at *
  generalize (D.lim n2).length = L2 at *
  go_wp2_with fail
  go_cut [8, 9] from 18 (fun pt0 pt1 wx => ∃ gq sq mq kq cq gr sr mr kr cr, pt0 = .pointer (some ⟨gq, 0, none⟩) ∧ w1.heap.size ≤ gq ∧ Box2 wx gq 61 (.bool sq) (.slice mq kq cq) ∧ RInt wx (.agg #[.bool sq, .slice mq kq cq]) (sg (b1 != b2) (n1 / n2)) ∧ pt1 = .pointer (some ⟨gr, 0, none⟩) ∧ w1.heap.size ≤ gr ∧ Box2 wx gr 61 (.bool sr) (.slice mr kr cr) ∧ RInt wx (.agg #[.bool sr, .slice mr kr cr]) (sg b1 (n1 % n2)) ∧ gq ≠ gr ∧ Below w1.heap.size w1 wx)
  case first =>
    refine wp_facts (fun L T wq => Below w1.heap.size w1 wq ∧ T 2 = .pointer (some ⟨w.heap.size, 0, none⟩) ∧ T 3 = .pointer (some ⟨(w.heap.size + 1), 0, none⟩) ∧ T 6 = lq ∧ T 7 = lr ∧ (L 0 = true → T 18 = .pointer (some ⟨w.heap.size, 0, none⟩)) ∧ (L 1 = true → T 19 = .bool b1) ∧ (L 2 = true → T 20 = .pointer (some ⟨(w.heap.size + 1), 0, none⟩)) ∧ (L 3 = true → T 21 = .bool b2) ∧ (L 4 = true → T 22 = .bool (b1 != b2)) ∧ (L 5 = true → T 23 = lq) ∧ (L 7 = true → T 25 = .pointer (some ⟨w.heap.size, 0, none⟩)) ∧ (L 8 = true → T 26 = .bool b1) ∧ (L 9 = true → T 27 = lr) ∧ (L 6 = true → RInt wq (T 24) (sg (b1 != b2) (n1 / n2))) ∧ (L 10 = true → RInt wq (T 28) (sg b1 (n1 % n2))) ∧ (L 11 = true → PS w1.heap.size wq (T 8)) ∧ (L 11 = true → L 13 = false → PB w1.heap.size wq 61 (T 8) [.bool false, .slice none 0 0]) ∧ (L 12 = true → PS w1.heap.size wq (T 9)) ∧ (L 12 = true → L 14 = false → PB w1.heap.size wq 61 (T 9) [.bool false, .slice none 0 0]) ∧ (L 11 = true → L 12 = true → T 8 ≠ T 9) ∧ (L 13 = true → PV w1.heap.size wq 61 (T 8) (T 24)) ∧ (L 14 = true → PV w1.heap.size wq 61 (T 9) (T 28))) 42 [8, 9, 18, 19, 20, 21, 22, 23, 24, 25, 26, 27, 28] [0, 1, 2, 3, 4, 5, 6, 7, 8, 9, 10, 11, 12, 13, 14] (by kernel_rfl) (by kernel_rfl) (by kernel_rfl) (by kernel_rfl) ?_ ?_ ?_
    · exact ⟨(Below.refl w1.heap.size w1).drew, rfl, rfl, rfl, rfl, no_yet, no_yet, no_yet, no_yet, no_yet, no_yet, no_yet, no_yet, no_yet, no_yet, no_yet, no_yet, no_yet, no_yet, no_yet, no_yet, no_yet, no_yet⟩
    · intro i hi
      match i, hi with
      | 0, _ =>
        refine StepAt.of (need := []) (later := []) (k := 6) (d := some 18) rfl rfl (by kernel_rfl) (by kernel_rfl) ?_
        intro L T wq ev a he hL hN hM hJ next hnext
        have e2 := (he.tmp 2).trans hJ.2.1
        go_simp
        exact hnext _ _ ⟨hJ.1, hJ.2.1, hJ.2.2.1, hJ.2.2.2.1, hJ.2.2.2.2.1, fun _ => rfl, hJ.2.2.2.2.2.2.1, hJ.2.2.2.2.2.2.2.1, hJ.2.2.2.2.2.2.2.2.1, hJ.2.2.2.2.2.2.2.2.2.1, hJ.2.2.2.2.2.2.2.2.2.2.1, hJ.2.2.2.2.2.2.2.2.2.2.2.1, hJ.2.2.2.2.2.2.2.2.2.2.2.2.1, hJ.2.2.2.2.2.2.2.2.2.2.2.2.2.1, hJ.2.2.2.2.2.2.2.2.2.2.2.2.2.2.1, hJ.2.2.2.2.2.2.2.2.2.2.2.2.2.2.2.1, hJ.2.2.2.2.2.2.2.2.2.2.2.2.2.2.2.2.1, hJ.2.2.2.2.2.2.2.2.2.2.2.2.2.2.2.2.2.1, hJ.2.2.2.2.2.2.2.2.2.2.2.2.2.2.2.2.2.2.1, hJ.2.2.2.2.2.2.2.2.2.2.2.2.2.2.2.2.2.2.2.1, hJ.2.2.2.2.2.2.2.2.2.2.2.2.2.2.2.2.2.2.2.2.1, hJ.2.2.2.2.2.2.2.2.2.2.2.2.2.2.2.2.2.2.2.2.2.1, hJ.2.2.2.2.2.2.2.2.2.2.2.2.2.2.2.2.2.2.2.2.2.2⟩
      | 1, _ =>
        refine StepAt.of (need := [0]) (later := []) (k := 6) (d := some 19) rfl rfl (by kernel_rfl) (by kernel_rfl) ?_
        intro L T wq ev a he hL hN hM hJ next hnext
        have e18 := (he.tmp 18).trans (hJ.2.2.2.2.2.1 (hN.1))
        have hcl0 := ((P0.out).step hJ.1).cell0
        go_simp
        exact hnext _ _ ⟨hJ.1, hJ.2.1, hJ.2.2.1, hJ.2.2.2.1, hJ.2.2.2.2.1, hJ.2.2.2.2.2.1, fun _ => rfl, hJ.2.2.2.2.2.2.2.1, hJ.2.2.2.2.2.2.2.2.1, hJ.2.2.2.2.2.2.2.2.2.1, hJ.2.2.2.2.2.2.2.2.2.2.1, hJ.2.2.2.2.2.2.2.2.2.2.2.1, hJ.2.2.2.2.2.2.2.2.2.2.2.2.1, hJ.2.2.2.2.2.2.2.2.2.2.2.2.2.1, hJ.2.2.2.2.2.2.2.2.2.2.2.2.2.2.1, hJ.2.2.2.2.2.2.2.2.2.2.2.2.2.2.2.1, hJ.2.2.2.2.2.2.2.2.2.2.2.2.2.2.2.2.1, hJ.2.2.2.2.2.2.2.2.2.2.2.2.2.2.2.2.2.1, hJ.2.2.2.2.2.2.2.2.2.2.2.2.2.2.2.2.2.2.1, hJ.2.2.2.2.2.2.2.2.2.2.2.2.2.2.2.2.2.2.2.1, hJ.2.2.2.2.2.2.2.2.2.2.2.2.2.2.2.2.2.2.2.2.1, hJ.2.2.2.2.2.2.2.2.2.2.2.2.2.2.2.2.2.2.2.2.2.1, hJ.2.2.2.2.2.2.2.2.2.2.2.2.2.2.2.2.2.2.2.2.2.2⟩
      | 2, _ =>
        refine StepAt.of (need := []) (later := []) (k := 6) (d := some 20) rfl rfl (by kernel_rfl) (by kernel_rfl) ?_
        intro L T wq ev a he hL hN hM hJ next hnext
        have e3 := (he.tmp 3).trans hJ.2.2.1
        go_simp
        exact hnext _ _ ⟨hJ.1, hJ.2.1, hJ.2.2.1, hJ.2.2.2.1, hJ.2.2.2.2.1, hJ.2.2.2.2.2.1, hJ.2.2.2.2.2.2.1, fun _ => rfl, hJ.2.2.2.2.2.2.2.2.1, hJ.2.2.2.2.2.2.2.2.2.1, hJ.2.2.2.2.2.2.2.2.2.2.1, hJ.2.2.2.2.2.2.2.2.2.2.2.1, hJ.2.2.2.2.2.2.2.2.2.2.2.2.1, hJ.2.2.2.2.2.2.2.2.2.2.2.2.2.1, hJ.2.2.2.2.2.2.2.2.2.2.2.2.2.2.1, hJ.2.2.2.2.2.2.2.2.2.2.2.2.2.2.2.1, hJ.2.2.2.2.2.2.2.2.2.2.2.2.2.2.2.2.1, hJ.2.2.2.2.2.2.2.2.2.2.2.2.2.2.2.2.2.1, hJ.2.2.2.2.2.2.2.2.2.2.2.2.2.2.2.2.2.2.1, hJ.2.2.2.2.2.2.2.2.2.2.2.2.2.2.2.2.2.2.2.1, hJ.2.2.2.2.2.2.2.2.2.2.2.2.2.2.2.2.2.2.2.2.1, hJ.2.2.2.2.2.2.2.2.2.2.2.2.2.2.2.2.2.2.2.2.2.1, hJ.2.2.2.2.2.2.2.2.2.2.2.2.2.2.2.2.2.2.2.2.2.2⟩
      | 3, _ =>
        refine StepAt.of (need := [2]) (later := []) (k := 6) (d := some 21) rfl rfl (by kernel_rfl) (by kernel_rfl) ?_
        intro L T wq ev a he hL hN hM hJ next hnext
        have e20 := (he.tmp 20).trans (hJ.2.2.2.2.2.2.2.1 (hN.1))
        have hcl0 := ((P1.out).step hJ.1).cell0
        go_simp
        exact hnext _ _ ⟨hJ.1, hJ.2.1, hJ.2.2.1, hJ.2.2.2.1, hJ.2.2.2.2.1, hJ.2.2.2.2.2.1, hJ.2.2.2.2.2.2.1, hJ.2.2.2.2.2.2.2.1, fun _ => rfl, hJ.2.2.2.2.2.2.2.2.2.1, hJ.2.2.2.2.2.2.2.2.2.2.1, hJ.2.2.2.2.2.2.2.2.2.2.2.1, hJ.2.2.2.2.2.2.2.2.2.2.2.2.1, hJ.2.2.2.2.2.2.2.2.2.2.2.2.2.1, hJ.2.2.2.2.2.2.2.2.2.2.2.2.2.2.1, hJ.2.2.2.2.2.2.2.2.2.2.2.2.2.2.2.1, hJ.2.2.2.2.2.2.2.2.2.2.2.2.2.2.2.2.1, hJ.2.2.2.2.2.2.2.2.2.2.2.2.2.2.2.2.2.1, hJ.2.2.2.2.2.2.2.2.2.2.2.2.2.2.2.2.2.2.1, hJ.2.2.2.2.2.2.2.2.2.2.2.2.2.2.2.2.2.2.2.1, hJ.2.2.2.2.2.2.2.2.2.2.2.2.2.2.2.2.2.2.2.2.1, hJ.2.2.2.2.2.2.2.2.2.2.2.2.2.2.2.2.2.2.2.2.2.1, hJ.2.2.2.2.2.2.2.2.2.2.2.2.2.2.2.2.2.2.2.2.2.2⟩
      | 4, _ =>
        refine StepAt.of (need := [1, 3]) (later := []) (k := 6) (d := some 22) rfl rfl (by kernel_rfl) (by kernel_rfl) ?_
        intro L T wq ev a he hL hN hM hJ next hnext
        have e19 := (he.tmp 19).trans (hJ.2.2.2.2.2.2.1 (hN.1))
        have e21 := (he.tmp 21).trans (hJ.2.2.2.2.2.2.2.2.1 (hN.2.1))
        go_simp
        exact hnext _ _ ⟨hJ.1, hJ.2.1, hJ.2.2.1, hJ.2.2.2.1, hJ.2.2.2.2.1, hJ.2.2.2.2.2.1, hJ.2.2.2.2.2.2.1, hJ.2.2.2.2.2.2.2.1, hJ.2.2.2.2.2.2.2.2.1, fun _ => rfl, hJ.2.2.2.2.2.2.2.2.2.2.1, hJ.2.2.2.2.2.2.2.2.2.2.2.1, hJ.2.2.2.2.2.2.2.2.2.2.2.2.1, hJ.2.2.2.2.2.2.2.2.2.2.2.2.2.1, hJ.2.2.2.2.2.2.2.2.2.2.2.2.2.2.1, hJ.2.2.2.2.2.2.2.2.2.2.2.2.2.2.2.1, hJ.2.2.2.2.2.2.2.2.2.2.2.2.2.2.2.2.1, hJ.2.2.2.2.2.2.2.2.2.2.2.2.2.2.2.2.2.1, hJ.2.2.2.2.2.2.2.2.2.2.2.2.2.2.2.2.2.2.1, hJ.2.2.2.2.2.2.2.2.2.2.2.2.2.2.2.2.2.2.2.1, hJ.2.2.2.2.2.2.2.2.2.2.2.2.2.2.2.2.2.2.2.2.1, hJ.2.2.2.2.2.2.2.2.2.2.2.2.2.2.2.2.2.2.2.2.2.1, hJ.2.2.2.2.2.2.2.2.2.2.2.2.2.2.2.2.2.2.2.2.2.2⟩
      | 5, _ =>
        refine StepAt.of (need := []) (later := []) (k := 6) (d := some 23) rfl rfl (by kernel_rfl) (by kernel_rfl) ?_
        intro L T wq ev a he hL hN hM hJ next hnext
        have e6 := (he.tmp 6).trans hJ.2.2.2.1
        go_simp
        exact hnext _ _ ⟨hJ.1, hJ.2.1, hJ.2.2.1, hJ.2.2.2.1, hJ.2.2.2.2.1, hJ.2.2.2.2.2.1, hJ.2.2.2.2.2.2.1, hJ.2.2.2.2.2.2.2.1, hJ.2.2.2.2.2.2.2.2.1, hJ.2.2.2.2.2.2.2.2.2.1, fun _ => rfl, hJ.2.2.2.2.2.2.2.2.2.2.2.1, hJ.2.2.2.2.2.2.2.2.2.2.2.2.1, hJ.2.2.2.2.2.2.2.2.2.2.2.2.2.1, hJ.2.2.2.2.2.2.2.2.2.2.2.2.2.2.1, hJ.2.2.2.2.2.2.2.2.2.2.2.2.2.2.2.1, hJ.2.2.2.2.2.2.2.2.2.2.2.2.2.2.2.2.1, hJ.2.2.2.2.2.2.2.2.2.2.2.2.2.2.2.2.2.1, hJ.2.2.2.2.2.2.2.2.2.2.2.2.2.2.2.2.2.2.1, hJ.2.2.2.2.2.2.2.2.2.2.2.2.2.2.2.2.2.2.2.1, hJ.2.2.2.2.2.2.2.2.2.2.2.2.2.2.2.2.2.2.2.2.1, hJ.2.2.2.2.2.2.2.2.2.2.2.2.2.2.2.2.2.2.2.2.2.1, hJ.2.2.2.2.2.2.2.2.2.2.2.2.2.2.2.2.2.2.2.2.2.2⟩
      | 6, _ =>
        refine StepAt.of (need := [4, 5]) (later := [13]) (k := 6) (d := some 24) rfl rfl (by kernel_rfl) (by kernel_rfl) ?_
        intro L T wq ev a he hL hN hM hJ next hnext
        have e22 := (he.tmp 22).trans (hJ.2.2.2.2.2.2.2.2.2.1 (hN.1))
        have e23 := (he.tmp 23).trans (hJ.2.2.2.2.2.2.2.2.2.2.1 (hN.2.1))
        have ef := he.func
        go_simp
        refine (rnorm2_any _ _ (D.lim (n1 / n2)) _ (NQ.out.below hJ.1) (D.ok_lim _)).mono ?_
        rintro e wq' ⟨v, rfl, i, hb⟩
        rw [D.val_lim] at i
        exact hnext _ _ ⟨hJ.1.trans ((hb).mono hJ.1.size), hJ.2.1, hJ.2.2.1, hJ.2.2.2.1, hJ.2.2.2.2.1, hJ.2.2.2.2.2.1, hJ.2.2.2.2.2.2.1, hJ.2.2.2.2.2.2.2.1, hJ.2.2.2.2.2.2.2.2.1, hJ.2.2.2.2.2.2.2.2.2.1, hJ.2.2.2.2.2.2.2.2.2.2.1, hJ.2.2.2.2.2.2.2.2.2.2.2.1, hJ.2.2.2.2.2.2.2.2.2.2.2.2.1, hJ.2.2.2.2.2.2.2.2.2.2.2.2.2.1, fun _ => i, fun h => (hJ.2.2.2.2.2.2.2.2.2.2.2.2.2.2.2.1 h).below (hb), fun h => (hJ.2.2.2.2.2.2.2.2.2.2.2.2.2.2.2.2.1 h).step (hb), fun h h' => (hJ.2.2.2.2.2.2.2.2.2.2.2.2.2.2.2.2.2.1 h h').step (hb), fun h => (hJ.2.2.2.2.2.2.2.2.2.2.2.2.2.2.2.2.2.2.1 h).step (hb), fun h h' => (hJ.2.2.2.2.2.2.2.2.2.2.2.2.2.2.2.2.2.2.2.1 h h').step (hb), hJ.2.2.2.2.2.2.2.2.2.2.2.2.2.2.2.2.2.2.2.2.1, fun h => clash (hM.1) h, fun h => (hJ.2.2.2.2.2.2.2.2.2.2.2.2.2.2.2.2.2.2.2.2.2.2 h).step (hb)⟩
      | 7, _ =>
        refine StepAt.of (need := []) (later := []) (k := 6) (d := some 25) rfl rfl (by kernel_rfl) (by kernel_rfl) ?_
        intro L T wq ev a he hL hN hM hJ next hnext
        have e2 := (he.tmp 2).trans hJ.2.1
        go_simp
        exact hnext _ _ ⟨hJ.1, hJ.2.1, hJ.2.2.1, hJ.2.2.2.1, hJ.2.2.2.2.1, hJ.2.2.2.2.2.1, hJ.2.2.2.2.2.2.1, hJ.2.2.2.2.2.2.2.1, hJ.2.2.2.2.2.2.2.2.1, hJ.2.2.2.2.2.2.2.2.2.1, hJ.2.2.2.2.2.2.2.2.2.2.1, fun _ => rfl, hJ.2.2.2.2.2.2.2.2.2.2.2.2.1, hJ.2.2.2.2.2.2.2.2.2.2.2.2.2.1, hJ.2.2.2.2.2.2.2.2.2.2.2.2.2.2.1, hJ.2.2.2.2.2.2.2.2.2.2.2.2.2.2.2.1, hJ.2.2.2.2.2.2.2.2.2.2.2.2.2.2.2.2.1, hJ.2.2.2.2.2.2.2.2.2.2.2.2.2.2.2.2.2.1, hJ.2.2.2.2.2.2.2.2.2.2.2.2.2.2.2.2.2.2.1, hJ.2.2.2.2.2.2.2.2.2.2.2.2.2.2.2.2.2.2.2.1, hJ.2.2.2.2.2.2.2.2.2.2.2.2.2.2.2.2.2.2.2.2.1, hJ.2.2.2.2.2.2.2.2.2.2.2.2.2.2.2.2.2.2.2.2.2.1, hJ.2.2.2.2.2.2.2.2.2.2.2.2.2.2.2.2.2.2.2.2.2.2⟩
      | 8, _ =>
        refine StepAt.of (need := [7]) (later := []) (k := 6) (d := some 26) rfl rfl (by kernel_rfl) (by kernel_rfl) ?_
        intro L T wq ev a he hL hN hM hJ next hnext
        have e25 := (he.tmp 25).trans (hJ.2.2.2.2.2.2.2.2.2.2.2.1 (hN.1))
        have hcl0 := ((P0.out).step hJ.1).cell0
        go_simp
        exact hnext _ _ ⟨hJ.1, hJ.2.1, hJ.2.2.1, hJ.2.2.2.1, hJ.2.2.2.2.1, hJ.2.2.2.2.2.1, hJ.2.2.2.2.2.2.1, hJ.2.2.2.2.2.2.2.1, hJ.2.2.2.2.2.2.2.2.1, hJ.2.2.2.2.2.2.2.2.2.1, hJ.2.2.2.2.2.2.2.2.2.2.1, hJ.2.2.2.2.2.2.2.2.2.2.2.1, fun _ => rfl, hJ.2.2.2.2.2.2.2.2.2.2.2.2.2.1, hJ.2.2.2.2.2.2.2.2.2.2.2.2.2.2.1, hJ.2.2.2.2.2.2.2.2.2.2.2.2.2.2.2.1, hJ.2.2.2.2.2.2.2.2.2.2.2.2.2.2.2.2.1, hJ.2.2.2.2.2.2.2.2.2.2.2.2.2.2.2.2.2.1, hJ.2.2.2.2.2.2.2.2.2.2.2.2.2.2.2.2.2.2.1, hJ.2.2.2.2.2.2.2.2.2.2.2.2.2.2.2.2.2.2.2.1, hJ.2.2.2.2.2.2.2.2.2.2.2.2.2.2.2.2.2.2.2.2.1, hJ.2.2.2.2.2.2.2.2.2.2.2.2.2.2.2.2.2.2.2.2.2.1, hJ.2.2.2.2.2.2.2.2.2.2.2.2.2.2.2.2.2.2.2.2.2.2⟩
      | 9, _ =>
        refine StepAt.of (need := []) (later := []) (k := 6) (d := some 27) rfl rfl (by kernel_rfl) (by kernel_rfl) ?_
        intro L T wq ev a he hL hN hM hJ next hnext
        have e7 := (he.tmp 7).trans hJ.2.2.2.2.1
        go_simp
        exact hnext _ _ ⟨hJ.1, hJ.2.1, hJ.2.2.1, hJ.2.2.2.1, hJ.2.2.2.2.1, hJ.2.2.2.2.2.1, hJ.2.2.2.2.2.2.1, hJ.2.2.2.2.2.2.2.1, hJ.2.2.2.2.2.2.2.2.1, hJ.2.2.2.2.2.2.2.2.2.1, hJ.2.2.2.2.2.2.2.2.2.2.1, hJ.2.2.2.2.2.2.2.2.2.2.2.1, hJ.2.2.2.2.2.2.2.2.2.2.2.2.1, fun _ => rfl, hJ.2.2.2.2.2.2.2.2.2.2.2.2.2.2.1, hJ.2.2.2.2.2.2.2.2.2.2.2.2.2.2.2.1, hJ.2.2.2.2.2.2.2.2.2.2.2.2.2.2.2.2.1, hJ.2.2.2.2.2.2.2.2.2.2.2.2.2.2.2.2.2.1, hJ.2.2.2.2.2.2.2.2.2.2.2.2.2.2.2.2.2.2.1, hJ.2.2.2.2.2.2.2.2.2.2.2.2.2.2.2.2.2.2.2.1, hJ.2.2.2.2.2.2.2.2.2.2.2.2.2.2.2.2.2.2.2.2.1, hJ.2.2.2.2.2.2.2.2.2.2.2.2.2.2.2.2.2.2.2.2.2.1, hJ.2.2.2.2.2.2.2.2.2.2.2.2.2.2.2.2.2.2.2.2.2.2⟩
      | 10, _ =>
        refine StepAt.of (need := [8, 9]) (later := [14]) (k := 6) (d := some 28) rfl rfl (by kernel_rfl) (by kernel_rfl) ?_
        intro L T wq ev a he hL hN hM hJ next hnext
        have e26 := (he.tmp 26).trans (hJ.2.2.2.2.2.2.2.2.2.2.2.2.1 (hN.1))
        have e27 := (he.tmp 27).trans (hJ.2.2.2.2.2.2.2.2.2.2.2.2.2.1 (hN.2.1))
        have ef := he.func
        go_simp
        refine (rnorm2_any _ _ (D.lim (n1 % n2)) _ (NR.out.below hJ.1) (D.ok_lim _)).mono ?_
        rintro e wq' ⟨v, rfl, i, hb⟩
        rw [D.val_lim] at i
        exact hnext _ _ ⟨hJ.1.trans ((hb).mono hJ.1.size), hJ.2.1, hJ.2.2.1, hJ.2.2.2.1, hJ.2.2.2.2.1, hJ.2.2.2.2.2.1, hJ.2.2.2.2.2.2.1, hJ.2.2.2.2.2.2.2.1, hJ.2.2.2.2.2.2.2.2.1, hJ.2.2.2.2.2.2.2.2.2.1, hJ.2.2.2.2.2.2.2.2.2.2.1, hJ.2.2.2.2.2.2.2.2.2.2.2.1, hJ.2.2.2.2.2.2.2.2.2.2.2.2.1, hJ.2.2.2.2.2.2.2.2.2.2.2.2.2.1, fun h => (hJ.2.2.2.2.2.2.2.2.2.2.2.2.2.2.1 h).below (hb), fun _ => i, fun h => (hJ.2.2.2.2.2.2.2.2.2.2.2.2.2.2.2.2.1 h).step (hb), fun h h' => (hJ.2.2.2.2.2.2.2.2.2.2.2.2.2.2.2.2.2.1 h h').step (hb), fun h => (hJ.2.2.2.2.2.2.2.2.2.2.2.2.2.2.2.2.2.2.1 h).step (hb), fun h h' => (hJ.2.2.2.2.2.2.2.2.2.2.2.2.2.2.2.2.2.2.2.1 h h').step (hb), hJ.2.2.2.2.2.2.2.2.2.2.2.2.2.2.2.2.2.2.2.2.1, fun h => (hJ.2.2.2.2.2.2.2.2.2.2.2.2.2.2.2.2.2.2.2.2.2.1 h).step (hb), fun h => clash (hM.1) h⟩
      | 11, _ =>
        refine StepAt.of (need := []) (later := [13]) (k := 6) (d := some 8) rfl rfl (by kernel_rfl) (by kernel_rfl) ?_
        intro L T wq ev a he hL hN hM hJ next hnext
        go_simp
        have hb := below_alloc wq (.cells #[.bool false, .slice none 0 0] 61)
        exact hnext _ _ ⟨hJ.1.trans ((hb).mono hJ.1.size), hJ.2.1, hJ.2.2.1, hJ.2.2.2.1, hJ.2.2.2.2.1, hJ.2.2.2.2.2.1, hJ.2.2.2.2.2.2.1, hJ.2.2.2.2.2.2.2.1, hJ.2.2.2.2.2.2.2.2.1, hJ.2.2.2.2.2.2.2.2.2.1, hJ.2.2.2.2.2.2.2.2.2.2.1, hJ.2.2.2.2.2.2.2.2.2.2.2.1, hJ.2.2.2.2.2.2.2.2.2.2.2.2.1, hJ.2.2.2.2.2.2.2.2.2.2.2.2.2.1, fun h => (hJ.2.2.2.2.2.2.2.2.2.2.2.2.2.2.1 h).below (hb), fun h => (hJ.2.2.2.2.2.2.2.2.2.2.2.2.2.2.2.1 h).below (hb), fun _ => PS.new hJ.1.size _, fun _ _ => PB.new hJ.1.size _ [.bool false, .slice none 0 0], fun h => (hJ.2.2.2.2.2.2.2.2.2.2.2.2.2.2.2.2.2.2.1 h).step (hb), fun h h' => (hJ.2.2.2.2.2.2.2.2.2.2.2.2.2.2.2.2.2.2.2.1 h h').step (hb), fun _ h => Ne.symm (hJ.2.2.2.2.2.2.2.2.2.2.2.2.2.2.2.2.2.2.1 h).ne, fun h => clash (hM.1) h, fun h => (hJ.2.2.2.2.2.2.2.2.2.2.2.2.2.2.2.2.2.2.2.2.2.2 h).step (hb)⟩
      | 12, _ =>
        refine StepAt.of (need := []) (later := [14]) (k := 6) (d := some 9) rfl rfl (by kernel_rfl) (by kernel_rfl) ?_
        intro L T wq ev a he hL hN hM hJ next hnext
        go_simp
        have hb := below_alloc wq (.cells #[.bool false, .slice none 0 0] 61)
        exact hnext _ _ ⟨hJ.1.trans ((hb).mono hJ.1.size), hJ.2.1, hJ.2.2.1, hJ.2.2.2.1, hJ.2.2.2.2.1, hJ.2.2.2.2.2.1, hJ.2.2.2.2.2.2.1, hJ.2.2.2.2.2.2.2.1, hJ.2.2.2.2.2.2.2.2.1, hJ.2.2.2.2.2.2.2.2.2.1, hJ.2.2.2.2.2.2.2.2.2.2.1, hJ.2.2.2.2.2.2.2.2.2.2.2.1, hJ.2.2.2.2.2.2.2.2.2.2.2.2.1, hJ.2.2.2.2.2.2.2.2.2.2.2.2.2.1, fun h => (hJ.2.2.2.2.2.2.2.2.2.2.2.2.2.2.1 h).below (hb), fun h => (hJ.2.2.2.2.2.2.2.2.2.2.2.2.2.2.2.1 h).below (hb), fun h => (hJ.2.2.2.2.2.2.2.2.2.2.2.2.2.2.2.2.1 h).step (hb), fun h h' => (hJ.2.2.2.2.2.2.2.2.2.2.2.2.2.2.2.2.2.1 h h').step (hb), fun _ => PS.new hJ.1.size _, fun _ _ => PB.new hJ.1.size _ [.bool false, .slice none 0 0], fun h _ => (hJ.2.2.2.2.2.2.2.2.2.2.2.2.2.2.2.2.1 h).ne, fun h => (hJ.2.2.2.2.2.2.2.2.2.2.2.2.2.2.2.2.2.2.2.2.2.1 h).step (hb), fun h => clash (hM.1) h⟩
      | 13, _ =>
        refine StepAt.of (need := [11, 6, 12]) (later := []) (k := 6) (d := none) rfl rfl (by kernel_rfl) (by kernel_rfl) ?_
        intro L T wq ev a he hL hN hM hJ next hnext
        obtain ⟨g, hg, hge, hbx⟩ := hJ.2.2.2.2.2.2.2.2.2.2.2.2.2.2.2.2.2.1 (hN.1) hL
        obtain ⟨sv, mv, nv, cv, hv, iv⟩ := (hJ.2.2.2.2.2.2.2.2.2.2.2.2.2.2.1 (hN.2.1)).cells
        have e8 := (he.tmp 8).trans hg
        have e24 := (he.tmp 24).trans hv
        have hc0 := hbx.cell 0 rfl
        have hf0 := hbx.free 0
        have hc1 := hbx.cell 1 rfl
        have hf1 := hbx.free 1
        have hk := keeps_all hbx (by intro c hc z e; subst e; simp at hc) [.bool sv, .slice mv nv cv] rfl
        go_simp
        exact hnext undef _ ⟨below_all hge [.bool sv, .slice mv nv cv] 0 _ hJ.1, hJ.2.1, hJ.2.2.1, hJ.2.2.2.1, hJ.2.2.2.2.1, hJ.2.2.2.2.2.1, hJ.2.2.2.2.2.2.1, hJ.2.2.2.2.2.2.2.1, hJ.2.2.2.2.2.2.2.2.1, hJ.2.2.2.2.2.2.2.2.2.1, hJ.2.2.2.2.2.2.2.2.2.2.1, hJ.2.2.2.2.2.2.2.2.2.2.2.1, hJ.2.2.2.2.2.2.2.2.2.2.2.2.1, hJ.2.2.2.2.2.2.2.2.2.2.2.2.2.1, fun h => (hJ.2.2.2.2.2.2.2.2.2.2.2.2.2.2.1 h).keep hk, fun h => (hJ.2.2.2.2.2.2.2.2.2.2.2.2.2.2.2.1 h).keep hk, fun h => (hJ.2.2.2.2.2.2.2.2.2.2.2.2.2.2.2.2.1 h).put [.bool sv, .slice mv nv cv], fun _ h => no_more h, fun h => (hJ.2.2.2.2.2.2.2.2.2.2.2.2.2.2.2.2.2.2.1 h).put [.bool sv, .slice mv nv cv], fun h h' => (hJ.2.2.2.2.2.2.2.2.2.2.2.2.2.2.2.2.2.2.2.1 h h').put hg (hJ.2.2.2.2.2.2.2.2.2.2.2.2.2.2.2.2.2.2.2.2.1 (hN.1) (hN.2.2.1)) [.bool sv, .slice mv nv cv], hJ.2.2.2.2.2.2.2.2.2.2.2.2.2.2.2.2.2.2.2.2.1, fun _ => PV.set' [.bool sv, .slice mv nv cv] hg hv hbx hge rfl, fun h => (hJ.2.2.2.2.2.2.2.2.2.2.2.2.2.2.2.2.2.2.2.2.2.2 h).put hg (hJ.2.2.2.2.2.2.2.2.2.2.2.2.2.2.2.2.2.2.2.2.1 (hN.1) (hN.2.2.1)) [.bool sv, .slice mv nv cv]⟩
      | 14, _ =>
        refine StepAt.of (need := [12, 10, 11]) (later := []) (k := 6) (d := none) rfl rfl (by kernel_rfl) (by kernel_rfl) ?_
        intro L T wq ev a he hL hN hM hJ next hnext
        obtain ⟨g, hg, hge, hbx⟩ := hJ.2.2.2.2.2.2.2.2.2.2.2.2.2.2.2.2.2.2.2.1 (hN.1) hL
        obtain ⟨sv, mv, nv, cv, hv, iv⟩ := (hJ.2.2.2.2.2.2.2.2.2.2.2.2.2.2.2.1 (hN.2.1)).cells
        have e9 := (he.tmp 9).trans hg
        have e28 := (he.tmp 28).trans hv
        have hc0 := hbx.cell 0 rfl
        have hf0 := hbx.free 0
        have hc1 := hbx.cell 1 rfl
        have hf1 := hbx.free 1
        have hk := keeps_all hbx (by intro c hc z e; subst e; simp at hc) [.bool sv, .slice mv nv cv] rfl
        go_simp
        exact hnext undef _ ⟨below_all hge [.bool sv, .slice mv nv cv] 0 _ hJ.1, hJ.2.1, hJ.2.2.1, hJ.2.2.2.1, hJ.2.2.2.2.1, hJ.2.2.2.2.2.1, hJ.2.2.2.2.2.2.1, hJ.2.2.2.2.2.2.2.1, hJ.2.2.2.2.2.2.2.2.1, hJ.2.2.2.2.2.2.2.2.2.1, hJ.2.2.2.2.2.2.2.2.2.2.1, hJ.2.2.2.2.2.2.2.2.2.2.2.1, hJ.2.2.2.2.2.2.2.2.2.2.2.2.1, hJ.2.2.2.2.2.2.2.2.2.2.2.2.2.1, fun h => (hJ.2.2.2.2.2.2.2.2.2.2.2.2.2.2.1 h).keep hk, fun h => (hJ.2.2.2.2.2.2.2.2.2.2.2.2.2.2.2.1 h).keep hk, fun h => (hJ.2.2.2.2.2.2.2.2.2.2.2.2.2.2.2.2.1 h).put [.bool sv, .slice mv nv cv], fun h h' => (hJ.2.2.2.2.2.2.2.2.2.2.2.2.2.2.2.2.2.1 h h').put hg (Ne.symm (hJ.2.2.2.2.2.2.2.2.2.2.2.2.2.2.2.2.2.2.2.2.1 (hN.2.2.1) (hN.1))) [.bool sv, .slice mv nv cv], fun h => (hJ.2.2.2.2.2.2.2.2.2.2.2.2.2.2.2.2.2.2.1 h).put [.bool sv, .slice mv nv cv], fun _ h => no_more h, hJ.2.2.2.2.2.2.2.2.2.2.2.2.2.2.2.2.2.2.2.2.1, fun h => (hJ.2.2.2.2.2.2.2.2.2.2.2.2.2.2.2.2.2.2.2.2.2.1 h).put hg (Ne.symm (hJ.2.2.2.2.2.2.2.2.2.2.2.2.2.2.2.2.2.2.2.2.1 (hN.2.2.1) (hN.1))) [.bool sv, .slice mv nv cv], fun _ => PV.set' [.bool sv, .slice mv nv cv] hg hv hbx hge rfl⟩
      | k + 15, hi => exact absurd hi (Nat.not_lt.2 (Nat.le_add_left 15 k))
    · intro L a wq hA hJ hs hd hf
      obtain ⟨gq, cs0, hp0, hge0, hv0, hb0⟩ := hJ.2.2.2.2.2.2.2.2.2.2.2.2.2.2.2.2.2.2.2.2.2.1 (hA.2.2.2.2.2.2.2.2.2.2.2.2.2.1)
      have i0 := hJ.2.2.2.2.2.2.2.2.2.2.2.2.2.2.1 (hA.2.2.2.2.2.2.1)
      obtain ⟨sq, mq, kq, cq, hq0, i0⟩ := i0.cells
      rw [hq0, Value.agg.injEq] at hv0
      have hl0 : cs0 = _ := congrArg Array.toList hv0.symm
      subst hl0
      obtain ⟨gr, cs1, hp1, hge1, hv1, hb1⟩ := hJ.2.2.2.2.2.2.2.2.2.2.2.2.2.2.2.2.2.2.2.2.2.2 (hA.2.2.2.2.2.2.2.2.2.2.2.2.2.2.1)
      have i1 := hJ.2.2.2.2.2.2.2.2.2.2.2.2.2.2.2.1 (hA.2.2.2.2.2.2.2.2.2.2.1)
      obtain ⟨sr, mr, kr, cr, hq1, i1⟩ := i1.cells
      rw [hq1, Value.agg.injEq] at hv1
      have hl1 : cs1 = _ := congrArg Array.toList hv1.symm
      subst hl1
      have hne0_1 : gq ≠ gr := fun e => hJ.2.2.2.2.2.2.2.2.2.2.2.2.2.2.2.2.2.2.2.2.1 (hA.2.2.2.2.2.2.2.2.2.2.2.1) (hA.2.2.2.2.2.2.2.2.2.2.2.2.1) (hp0.trans (e ▸ hp1.symm))
      refine (by assumption : ∀ a' w', Met _ a' w' → _) _ _ (Met.intro ((by assumption : ∀ a' w', _ → _) _ _ ?_))
      exact ⟨a.tmps.getD 8 undef, a.tmps.getD 9 undef, a.tmps.getD 18 undef, a.tmps.getD 19 undef, a.tmps.getD 20 undef, a.tmps.getD 21 undef, a.tmps.getD 22 undef, a.tmps.getD 23 undef, a.tmps.getD 24 undef, a.tmps.getD 25 undef, a.tmps.getD 26 undef, a.tmps.getD 27 undef, a.tmps.getD 28 undef, a.tmps.getD 29 undef, a.tmps.getD 30 undef, a.tmps.getD 31 undef, a.tmps.getD 32 undef, a.tmps.getD 33 undef, a.tmps.getD 34 undef, a.tmps.getD 35 undef, a.tmps.getD 36 undef, a.tmps.getD 37 undef, a.tmps.getD 38 undef, a.tmps.getD 39 undef, a.tmps.getD 40 undef, a.tmps.getD 41 undef, ⟨gq, sq, mq, kq, cq, gr, sr, mr, kr, cr, hp0, hge0, hb0, i0, hp1, hge1, hb1, i1, hne0_1, hJ.1⟩, act_eq _ _ [8, 9, 18, 19, 20, 21, 22, 23, 24, 25, 26, 27, 28, 29, 30, 31, 32, 33, 34, 35, 36, 37, 38, 39, 40, 41] hf (by kernel_rfl) (hs.trans (by kernel_rfl)) hd (by kernel_rfl)⟩
  case rest =>
  obtain ⟨gq, sq, mq, kq, cq, gr, sr, mr, kr, cr, rfl, hge0, hbx0, hi0, rfl, hge1, hbx1, hi1, hne0_1, hb⟩ := hcut
  have LTS : Hid (w.heap.size < gq ∧ (w.heap.size + 1) < gq ∧ (w.heap.size + 1 + 1) < gq ∧ (w.heap.size + 1 + 1 + 1) < gq ∧ w.heap.size < gr ∧ (w.heap.size + 1) < gr ∧ (w.heap.size + 1 + 1) < gr ∧ (w.heap.size + 1 + 1 + 1) < gr ∧ gq ≠ gr) := hide ⟨Nat.lt_of_lt_of_le P0.out.lt hge0, Nat.lt_of_lt_of_le P1.out.lt hge0, Nat.lt_of_lt_of_le P2.out.lt hge0, Nat.lt_of_lt_of_le P3.out.lt hge0, Nat.lt_of_lt_of_le P0.out.lt hge1, Nat.lt_of_lt_of_le P1.out.lt hge1, Nat.lt_of_lt_of_le P2.out.lt hge1, Nat.lt_of_lt_of_le P3.out.lt hge1, hne0_1⟩
  replace HB := hide (HB.out.trans (hb.mono HB.out.size))
  replace P0 := hide (P0.out.step hb)
  replace P1 := hide (P1.out.step hb)
  replace P2 := hide (P2.out.step hb)
  replace P3 := hide (P3.out.step hb)
  have PQ := hide hbx0
  have PR := hide hbx1
  have IQ := hide hi0
  have IR := hide hi1
  clear NQ NR hge0 hge1 hbx0 hbx1 hi0 hi1 hne0_1 hb
  generalize hwc : wc = w5 at *
  clear hwc
  replace Y2 := hide (Y2.out.below HB.out)
  have r0 := PR.out.cell0
  have r1 := PR.out.cell1
  have HSR := hide (RInt.neg IR.out)
  cases sr with
  | true =>
    have hs : (sg b1 (n1 % n2)) < 0 := HSR.out.1 rfl
    have HS := hide hs
    clear hs HSR
    go_wp2_with fail
    clear r0 r1
    replace P2 := hide P2.out.drew
    replace P3 := hide P3.out.drew
    refine wp_calm (fun w' => Below w.heap.size w w' ∧ Box2 w' w.heap.size 61 (.bool b1) (.slice a1 L1 c1) ∧ Box2 w' (w.heap.size + 1) 61 (.bool b2) (.slice a2 L2 c2) ∧ Box2 w' gq 61 (.bool sq) (.slice mq kq cq) ∧ Box2 w' gr 61 (.bool true) (.slice mr kr cr) ∧ RInt w' (.agg #[.bool sq, .slice mq kq cq]) (sg (b1 != b2) (n1 / n2)) ∧ RInt w' (.agg #[.bool true, .slice mr kr cr]) (sg b1 (n1 % n2)) ∧ RInt w' (.agg #[.bool b2, .slice a2 L2 c2]) (sg b2 n2)) (fun j => j != 4) 5 #[false, false, false, false, false] (by kernel_rfl) rfl rfl ?_
    have HF := hide (And.intro (HB.out.drew) (And.intro (P0.out.drew) (And.intro (P1.out.drew) (And.intro (PQ.out.drew) (And.intro (PR.out.drew) (And.intro (IQ.out.drew) (And.intro (IR.out.drew) (Y2.out.drew))))))))
    generalize w5.drew = w5d at *
    refine Calm.take (i := 0) (v := ?_) (a' := ?_) (l' := #[true, false, false, false, false]) (d := some 31) rfl (by kernel_rfl) (by kernel_rfl) (by kernel_rfl) (by kernel_rfl) (fun _ _ _ h => h) HF.out rfl ?_ rfl rfl ?_ ?_
    rotate_left
    · intro w' hF; have f10 := hF.2.1.cell0; have f11 := hF.2.1.cell1; have f20 := hF.2.2.1.cell0; have f21 := hF.2.2.1.cell1; have f30 := hF.2.2.2.1.cell0; have f31 := hF.2.2.2.1.cell1; have f40 := hF.2.2.2.2.1.cell0; have f41 := hF.2.2.2.2.1.cell1; clear hF; go_simp; try rfl
    rotate_left
    · simp only [Act.put]; exact rfl
    refine Calm.take (i := 1) (v := ?_) (a' := ?_) (l' := #[true, true, false, false, false]) (d := some 32) rfl (by kernel_rfl) (by kernel_rfl) (by kernel_rfl) (by kernel_rfl) (fun _ _ _ h => h) HF.out rfl ?_ rfl rfl ?_ ?_
    rotate_left
    · intro w' hF; have f10 := hF.2.1.cell0; have f11 := hF.2.1.cell1; have f20 := hF.2.2.1.cell0; have f21 := hF.2.2.1.cell1; have f30 := hF.2.2.2.1.cell0; have f31 := hF.2.2.2.1.cell1; have f40 := hF.2.2.2.2.1.cell0; have f41 := hF.2.2.2.2.1.cell1; clear hF; go_simp; try rfl
    rotate_left
    · simp only [Act.put]; exact rfl
    refine Calm.one (i := 2) (l' := #[true, true, true, false, false]) (by kernel_rfl) rfl rfl rfl fun K hK => ?_
    go_simp
    refine (rabs_any _ (sg b2 n2) _ HF.out.2.2.2.2.2.2.2).mono ?_
    rintro e u1 ⟨v, rfl, n, hb⟩
    replace P2 := hide (P2.out.step (hb))
    replace P3 := hide (P3.out.step (hb))
    have HF' := hide (And.intro (HF.out.1.trans ((hb).mono HF.out.1.size)) (And.intro (HF.out.2.1.step (hb)) (And.intro (HF.out.2.2.1.step (hb)) (And.intro (HF.out.2.2.2.1.step (hb)) (And.intro (HF.out.2.2.2.2.1.step (hb)) (And.intro (HF.out.2.2.2.2.2.1.below (hb)) (And.intro (HF.out.2.2.2.2.2.2.1.below (hb)) (HF.out.2.2.2.2.2.2.2.below (hb)))))))))
    have TA := hide (n)
    refine hK _ _ (fun _ => HF'.out) ?_
    clear hK K HF hb n
    have HF := hide HF'.out
    clear HF'
    refine Calm.one (i := 3) (l' := #[true, true, true, true, false]) (by kernel_rfl) rfl rfl rfl fun K hK => ?_
    go_simp
    refine (radd2_any _ _ (sg b1 (n1 % n2)) ((sg b2 n2).natAbs : Int) _ HF.out.2.2.2.2.2.2.1 TA.out LR.out (by rw [Int.natAbs_natCast]; exact LY.out)).mono ?_
    rintro e u2 ⟨v, rfl, n, hb⟩
    obtain ⟨s4, m4, k4, d4, rfl, n⟩ := n.cells
    replace P2 := hide (P2.out.step (hb))
    replace P3 := hide (P3.out.step (hb))
    clear TA
    have HF' := hide (And.intro (HF.out.1.trans ((hb).mono HF.out.1.size)) (And.intro (HF.out.2.1.step (hb)) (And.intro (HF.out.2.2.1.step (hb)) (And.intro (HF.out.2.2.2.1.step (hb)) (And.intro (HF.out.2.2.2.2.1.step (hb)) (And.intro (HF.out.2.2.2.2.2.1.below (hb)) (And.intro (HF.out.2.2.2.2.2.2.1.below (hb)) (HF.out.2.2.2.2.2.2.2.below (hb)))))))))
    have TR := hide (n)
    refine hK _ _ (fun _ => HF'.out) ?_
    clear hK K HF hb n
    have HF := hide HF'.out
    clear HF'
    refine Calm.one (i := 4) (l' := #[true, true, true, true, true]) (by kernel_rfl) rfl rfl rfl fun K hK => ?_
    have hc0 := HF.out.2.2.2.2.1.cell0
    have hc1 := HF.out.2.2.2.2.1.cell1
    have hf0 := HF.out.2.2.2.2.1.free 0
    have hf1 := HF.out.2.2.2.2.1.free 1
    go_simp
    refine hK _ _ (fun h => absurd h (by decide)) ?_
    clear hK K
    refine Calm.done (by kernel_rfl) ?_
    clear hc0 hc1 hf0 hf1
    have HBn := hide (below_put HF.out.1 (show w.heap.size ≤ gr by have hx := LTS.out; omega) (.bool s4) (.slice m4 k4 d4))
    have P0n := hide (HF.out.2.1.other (C := gr) (by have hx := LTS.out; omega) (.bool s4) (.slice m4 k4 d4))
    have P1n := hide (HF.out.2.2.1.other (C := gr) (by have hx := LTS.out; omega) (.bool s4) (.slice m4 k4 d4))
    have PQn := hide (HF.out.2.2.2.1.other (C := gr) (by have hx := LTS.out; omega) (.bool s4) (.slice m4 k4 d4))
    have PRn := hide (HF.out.2.2.2.2.1.put (.bool s4) (.slice m4 k4 d4))
    have IQn := hide (HF.out.2.2.2.2.2.1.keep (HF.out.2.2.2.2.1.keeps (by simp) (by simp) (.bool s4) (.slice m4 k4 d4)))
    have IRn := hide (TR.out.keep (HF.out.2.2.2.2.1.keeps (by simp) (by simp) (.bool s4) (.slice m4 k4 d4)))
    have Y2n := hide (HF.out.2.2.2.2.2.2.2.keep (HF.out.2.2.2.2.1.keeps (by simp) (by simp) (.bool s4) (.slice m4 k4 d4)))
    replace P2 := hide (P2.out.other (C := gr) (by have hx := LTS.out; omega) (.bool s4) (.slice m4 k4 d4))
    replace P3 := hide (P3.out.other (C := gr) (by have hx := LTS.out; omega) (.bool s4) (.slice m4 k4 d4))
    clear HB P0 P1 PQ PR IQ IR Y2 HF TR
    have HB := hide HBn.out
    have P0 := hide P0n.out
    have P1 := hide P1n.out
    have PQ := hide PQn.out
    have PR := hide PRn.out
    have IQ := hide IQn.out
    have IR := hide IRn.out
    have Y2 := hide Y2n.out
    clear HBn P0n P1n PQn PRn IQn IRn Y2n
    generalize (u2.setCell ⟨gr, 0, none⟩ (.bool s4)).setCell ⟨gr, 1, none⟩ (.slice m4 k4 d4) = w6 at *
    go_wp2_with fail
    replace P2 := hide P2.out.drew
    replace P3 := hide P3.out.drew
    refine wp_calm (fun w' => Below w.heap.size w w' ∧ Box2 w' w.heap.size 61 (.bool b1) (.slice a1 L1 c1) ∧ Box2 w' (w.heap.size + 1) 61 (.bool b2) (.slice a2 L2 c2) ∧ Box2 w' gq 61 (.bool sq) (.slice mq kq cq) ∧ Box2 w' gr 61 (.bool s4) (.slice m4 k4 d4) ∧ RInt w' (.agg #[.bool sq, .slice mq kq cq]) (sg (b1 != b2) (n1 / n2)) ∧ RInt w' (.agg #[.bool s4, .slice m4 k4 d4]) ((sg b1 (n1 % n2)) + ((sg b2 n2).natAbs : Int)) ∧ RInt w' (.agg #[.bool b2, .slice a2 L2 c2]) (sg b2 n2)) (fun j => j != 5) 6 #[false, false, false, false, false, false] (by kernel_rfl) rfl rfl ?_
    have HF := hide (And.intro (HB.out.drew) (And.intro (P0.out.drew) (And.intro (P1.out.drew) (And.intro (PQ.out.drew) (And.intro (PR.out.drew) (And.intro (IQ.out.drew) (And.intro (IR.out.drew) (Y2.out.drew))))))))
    generalize w6.drew = w6d at *
    refine Calm.take (i := 0) (v := ?_) (a' := ?_) (l' := #[true, false, false, false, false, false]) (d := some 35) rfl (by kernel_rfl) (by kernel_rfl) (by kernel_rfl) (by kernel_rfl) (fun _ _ _ h => h) HF.out rfl ?_ rfl rfl ?_ ?_
    rotate_left
    · intro w' hF; have f10 := hF.2.1.cell0; have f11 := hF.2.1.cell1; have f20 := hF.2.2.1.cell0; have f21 := hF.2.2.1.cell1; have f30 := hF.2.2.2.1.cell0; have f31 := hF.2.2.2.1.cell1; have f40 := hF.2.2.2.2.1.cell0; have f41 := hF.2.2.2.2.1.cell1; clear hF; go_simp; try rfl
    rotate_left
    · simp only [Act.put]; exact rfl
    refine Calm.take (i := 1) (v := ?_) (a' := ?_) (l' := #[true, true, false, false, false, false]) (d := some 36) rfl (by kernel_rfl) (by kernel_rfl) (by kernel_rfl) (by kernel_rfl) (fun _ _ _ h => h) HF.out rfl ?_ rfl rfl ?_ ?_
    rotate_left
    · intro w' hF; have f10 := hF.2.1.cell0; have f11 := hF.2.1.cell1; have f20 := hF.2.2.1.cell0; have f21 := hF.2.2.1.cell1; have f30 := hF.2.2.2.1.cell0; have f31 := hF.2.2.2.1.cell1; have f40 := hF.2.2.2.2.1.cell0; have f41 := hF.2.2.2.2.1.cell1; clear hF; go_simp; try rfl
    rotate_left
    · simp only [Act.put]; exact rfl
    refine Calm.one (i := 2) (l' := #[true, true, true, false, false, false]) (by kernel_rfl) rfl rfl rfl fun K hK => ?_
    go_simp
    refine (rsign_any _ (sg b2 n2) _ HF.out.2.2.2.2.2.2.2).mono ?_
    rintro e u3 ⟨rfl, hb⟩
    replace P2 := hide (P2.out.step (hb))
    replace P3 := hide (P3.out.step (hb))
    have HF' := hide (And.intro (HF.out.1.trans ((hb).mono HF.out.1.size)) (And.intro (HF.out.2.1.step (hb)) (And.intro (HF.out.2.2.1.step (hb)) (And.intro (HF.out.2.2.2.1.step (hb)) (And.intro (HF.out.2.2.2.2.1.step (hb)) (And.intro (HF.out.2.2.2.2.2.1.below (hb)) (And.intro (HF.out.2.2.2.2.2.2.1.below (hb)) (HF.out.2.2.2.2.2.2.2.below (hb)))))))))
    refine hK _ _ (fun _ => HF'.out) ?_
    clear hK K HF hb
    have HF := hide HF'.out
    clear HF'
    refine Calm.one (i := 3) (l' := #[true, true, true, true, false, false]) (by kernel_rfl) rfl rfl rfl fun K hK => ?_
    go_simp
    refine (rof_any (sgnI (sg b2 n2)) _ (sgnI_lo _) (sgnI_hi _)).mono ?_
    rintro e u4 ⟨v, rfl, n, hb⟩
    replace P2 := hide (P2.out.step (hb))
    replace P3 := hide (P3.out.step (hb))
    have HF' := hide (And.intro (HF.out.1.trans ((hb).mono HF.out.1.size)) (And.intro (HF.out.2.1.step (hb)) (And.intro (HF.out.2.2.1.step (hb)) (And.intro (HF.out.2.2.2.1.step (hb)) (And.intro (HF.out.2.2.2.2.1.step (hb)) (And.intro (HF.out.2.2.2.2.2.1.below (hb)) (And.intro (HF.out.2.2.2.2.2.2.1.below (hb)) (HF.out.2.2.2.2.2.2.2.below (hb)))))))))
    have TS := hide (n)
    refine hK _ _ (fun _ => HF'.out) ?_
    clear hK K HF hb n
    have HF := hide HF'.out
    clear HF'
    refine Calm.one (i := 4) (l' := #[true, true, true, true, true, false]) (by kernel_rfl) rfl rfl rfl fun K hK => ?_
    go_simp
    refine (rsub2_any _ _ (sg (b1 != b2) (n1 / n2)) (sgnI (sg b2 n2)) _ HF.out.2.2.2.2.2.1 TS.out LQ.out (sgn_dlen _)).mono ?_
    rintro e u5 ⟨v, rfl, n, hb⟩
    obtain ⟨s3, m3, k3, d3, rfl, n⟩ := n.cells
    replace P2 := hide (P2.out.step (hb))
    replace P3 := hide (P3.out.step (hb))
    clear TS
    have HF' := hide (And.intro (HF.out.1.trans ((hb).mono HF.out.1.size)) (And.intro (HF.out.2.1.step (hb)) (And.intro (HF.out.2.2.1.step (hb)) (And.intro (HF.out.2.2.2.1.step (hb)) (And.intro (HF.out.2.2.2.2.1.step (hb)) (And.intro (HF.out.2.2.2.2.2.1.below (hb)) (And.intro (HF.out.2.2.2.2.2.2.1.below (hb)) (HF.out.2.2.2.2.2.2.2.below (hb)))))))))
    have TQ := hide (n)
    refine hK _ _ (fun _ => HF'.out) ?_
    clear hK K HF hb n
    have HF := hide HF'.out
    clear HF'
    refine Calm.one (i := 5) (l' := #[true, true, true, true, true, true]) (by kernel_rfl) rfl rfl rfl fun K hK => ?_
    have hc0 := HF.out.2.2.2.1.cell0
    have hc1 := HF.out.2.2.2.1.cell1
    have hf0 := HF.out.2.2.2.1.free 0
    have hf1 := HF.out.2.2.2.1.free 1
    go_simp
    refine hK _ _ (fun h => absurd h (by decide)) ?_
    clear hK K
    refine Calm.done (by kernel_rfl) ?_
    clear hc0 hc1 hf0 hf1
    have HBn := hide (below_put HF.out.1 (show w.heap.size ≤ gq by have hx := LTS.out; omega) (.bool s3) (.slice m3 k3 d3))
    have P0n := hide (HF.out.2.1.other (C := gq) (by have hx := LTS.out; omega) (.bool s3) (.slice m3 k3 d3))
    have P1n := hide (HF.out.2.2.1.other (C := gq) (by have hx := LTS.out; omega) (.bool s3) (.slice m3 k3 d3))
    have PQn := hide (HF.out.2.2.2.1.put (.bool s3) (.slice m3 k3 d3))
    have PRn := hide (HF.out.2.2.2.2.1.other (C := gq) (by have hx := LTS.out; omega) (.bool s3) (.slice m3 k3 d3))
    have IQn := hide (TQ.out.keep (HF.out.2.2.2.1.keeps (by simp) (by simp) (.bool s3) (.slice m3 k3 d3)))
    have IRn := hide (HF.out.2.2.2.2.2.2.1.keep (HF.out.2.2.2.1.keeps (by simp) (by simp) (.bool s3) (.slice m3 k3 d3)))
    have Y2n := hide (HF.out.2.2.2.2.2.2.2.keep (HF.out.2.2.2.1.keeps (by simp) (by simp) (.bool s3) (.slice m3 k3 d3)))
    replace P2 := hide (P2.out.other (C := gq) (by have hx := LTS.out; omega) (.bool s3) (.slice m3 k3 d3))
    replace P3 := hide (P3.out.other (C := gq) (by have hx := LTS.out; omega) (.bool s3) (.slice m3 k3 d3))
    clear HB P0 P1 PQ PR IQ IR Y2 HF TQ
    have HB := hide HBn.out
    have P0 := hide P0n.out
    have P1 := hide P1n.out
    have PQ := hide PQn.out
    have PR := hide PRn.out
    have IQ := hide IQn.out
    have IR := hide IRn.out
    have Y2 := hide Y2n.out
    clear HBn P0n P1n PQn PRn IQn IRn Y2n
    generalize (u5.setCell ⟨gq, 0, none⟩ (.bool s3)).setCell ⟨gq, 1, none⟩ (.slice m3 k3 d3) = w7 at *
    go_wp2_with fail
    replace P2 := hide P2.out.drew
    replace P3 := hide P3.out.drew
    refine wp_calm (fun w' => Below w.heap.size w w' ∧ Box2 w' w.heap.size 61 (.bool b1) (.slice a1 L1 c1) ∧ Box2 w' (w.heap.size + 1) 61 (.bool b2) (.slice a2 L2 c2) ∧ Box2 w' gq 61 (.bool s3) (.slice m3 k3 d3) ∧ Box2 w' gr 61 (.bool s4) (.slice m4 k4 d4) ∧ RInt w' (.agg #[.bool s3, .slice m3 k3 d3]) ((sg (b1 != b2) (n1 / n2)) - sgnI (sg b2 n2)) ∧ RInt w' (.agg #[.bool s4, .slice m4 k4 d4]) ((sg b1 (n1 % n2)) + ((sg b2 n2).natAbs : Int))) (fun _ => true) 4 #[false, false, false, false] (by kernel_rfl) rfl rfl ?_
    have HF := hide (And.intro (HB.out.drew) (And.intro (P0.out.drew) (And.intro (P1.out.drew) (And.intro (PQ.out.drew) (And.intro (PR.out.drew) (And.intro (IQ.out.drew) (IR.out.drew)))))))
    generalize w7.drew = w7d at *
    refine Calm.take (i := 0) (v := ?_) (a' := ?_) (l' := #[true, false, false, false]) (d := some 40) rfl (by kernel_rfl) (by kernel_rfl) (by kernel_rfl) (by kernel_rfl) (fun _ _ _ h => h) HF.out rfl ?_ rfl rfl ?_ ?_
    rotate_left
    · intro w' hF; have f10 := hF.2.1.cell0; have f11 := hF.2.1.cell1; have f20 := hF.2.2.1.cell0; have f21 := hF.2.2.1.cell1; have f30 := hF.2.2.2.1.cell0; have f31 := hF.2.2.2.1.cell1; have f40 := hF.2.2.2.2.1.cell0; have f41 := hF.2.2.2.2.1.cell1; clear hF; go_simp; try rfl
    rotate_left
    · simp only [Act.put]; exact rfl
    refine Calm.take (i := 1) (v := ?_) (a' := ?_) (l' := #[true, true, false, false]) (d := some 41) rfl (by kernel_rfl) (by kernel_rfl) (by kernel_rfl) (by kernel_rfl) (fun _ _ _ h => h) HF.out rfl ?_ rfl rfl ?_ ?_
    rotate_left
    · intro w' hF; have f10 := hF.2.1.cell0; have f11 := hF.2.1.cell1; have f20 := hF.2.2.1.cell0; have f21 := hF.2.2.1.cell1; have f30 := hF.2.2.2.1.cell0; have f31 := hF.2.2.2.1.cell1; have f40 := hF.2.2.2.2.1.cell0; have f41 := hF.2.2.2.2.1.cell1; clear hF; go_simp; try rfl
    rotate_left
    · simp only [Act.put]; exact rfl
    refine Calm.one (i := 2) (l' := #[true, true, true, false]) (by kernel_rfl) rfl rfl rfl fun K hK => ?_
    have hc0 := P2.out.cell0
    have hc1 := P2.out.cell1
    have hf0 := P2.out.free 0
    have hf1 := P2.out.free 1
    go_simp
    have HF' := hide (And.intro (below_put HF.out.1 (show w.heap.size ≤ (w.heap.size + 1 + 1) by have hx := LTS.out; omega) (.bool s3) (.slice m3 k3 d3)) (And.intro (HF.out.2.1.other (C := (w.heap.size + 1 + 1)) (by have hx := LTS.out; omega) (.bool s3) (.slice m3 k3 d3)) (And.intro (HF.out.2.2.1.other (C := (w.heap.size + 1 + 1)) (by have hx := LTS.out; omega) (.bool s3) (.slice m3 k3 d3)) (And.intro (HF.out.2.2.2.1.other (C := (w.heap.size + 1 + 1)) (by have hx := LTS.out; omega) (.bool s3) (.slice m3 k3 d3)) (And.intro (HF.out.2.2.2.2.1.other (C := (w.heap.size + 1 + 1)) (by have hx := LTS.out; omega) (.bool s3) (.slice m3 k3 d3)) (And.intro (HF.out.2.2.2.2.2.1.keep (P2.out.keeps (by simp) (by simp) (.bool s3) (.slice m3 k3 d3))) (HF.out.2.2.2.2.2.2.keep (P2.out.keeps (by simp) (by simp) (.bool s3) (.slice m3 k3 d3)))))))))
    replace P3 := hide (P3.out.other (C := (w.heap.size + 1 + 1)) (by have hx := LTS.out; omega) (.bool s3) (.slice m3 k3 d3))
    replace P2 := hide (P2.out.put (.bool s3) (.slice m3 k3 d3))
    refine hK _ _ (fun _ => HF'.out) ?_
    clear hK K HF hc0 hf0 hc1 hf1
    have HF := hide HF'.out
    clear HF'
    generalize ((w7d.setCell ⟨(w.heap.size + 1 + 1), 0, none⟩ (.bool s3)).setCell ⟨(w.heap.size + 1 + 1), 1, none⟩ (.slice m3 k3 d3)) = wt1 at *
    refine Calm.one (i := 3) (l' := #[true, true, true, true]) (by kernel_rfl) rfl rfl rfl fun K hK => ?_
    have hc0 := P3.out.cell0
    have hc1 := P3.out.cell1
    have hf0 := P3.out.free 0
    have hf1 := P3.out.free 1
    go_simp
    have HF' := hide (And.intro (below_put HF.out.1 (show w.heap.size ≤ (w.heap.size + 1 + 1 + 1) by have hx := LTS.out; omega) (.bool s4) (.slice m4 k4 d4)) (And.intro (HF.out.2.1.other (C := (w.heap.size + 1 + 1 + 1)) (by have hx := LTS.out; omega) (.bool s4) (.slice m4 k4 d4)) (And.intro (HF.out.2.2.1.other (C := (w.heap.size + 1 + 1 + 1)) (by have hx := LTS.out; omega) (.bool s4) (.slice m4 k4 d4)) (And.intro (HF.out.2.2.2.1.other (C := (w.heap.size + 1 + 1 + 1)) (by have hx := LTS.out; omega) (.bool s4) (.slice m4 k4 d4)) (And.intro (HF.out.2.2.2.2.1.other (C := (w.heap.size + 1 + 1 + 1)) (by have hx := LTS.out; omega) (.bool s4) (.slice m4 k4 d4)) (And.intro (HF.out.2.2.2.2.2.1.keep (P3.out.keeps (by simp) (by simp) (.bool s4) (.slice m4 k4 d4))) (HF.out.2.2.2.2.2.2.keep (P3.out.keeps (by simp) (by simp) (.bool s4) (.slice m4 k4 d4)))))))))
    replace P2 := hide (P2.out.other (C := (w.heap.size + 1 + 1 + 1)) (by have hx := LTS.out; omega) (.bool s4) (.slice m4 k4 d4))
    replace P3 := hide (P3.out.put (.bool s4) (.slice m4 k4 d4))
    refine hK _ _ (fun _ => HF'.out) ?_
    clear hK K HF hc0 hf0 hc1 hf1
    have HF := hide HF'.out
    clear HF'
    generalize ((wt1.setCell ⟨(w.heap.size + 1 + 1 + 1), 0, none⟩ (.bool s4)).setCell ⟨(w.heap.size + 1 + 1 + 1), 1, none⟩ (.slice m4 k4 d4)) = wt2 at *
    refine Calm.done (by kernel_rfl) ?_
    go_wp2
    refine ret_two rfl (w.heap.size + 1 + 1) (w.heap.size + 1 + 1 + 1) _ _ _ _ rfl rfl P2.out P3.out rfl ?_
    exact ⟨_, _, rfl, (div_less b1 b2 n1 n2 hy HS.out).1 ▸ HF.out.2.2.2.2.2.1, (div_less b1 b2 n1 n2 hy HS.out).2 ▸ HF.out.2.2.2.2.2.2, HF.out.1⟩
  | false =>
    have hs : ¬ (sg b1 (n1 % n2)) < 0 := fun h => absurd (HSR.out.2 h) (by decide)
    have HS := hide hs
    clear hs HSR
    go_wp2_with fail
    clear r0 r1
    replace P2 := hide P2.out.drew
    replace P3 := hide P3.out.drew
    refine wp_calm (fun w' => Below w.heap.size w w' ∧ Box2 w' w.heap.size 61 (.bool b1) (.slice a1 L1 c1) ∧ Box2 w' (w.heap.size + 1) 61 (.bool b2) (.slice a2 L2 c2) ∧ Box2 w' gq 61 (.bool sq) (.slice mq kq cq) ∧ Box2 w' gr 61 (.bool false) (.slice mr kr cr) ∧ RInt w' (.agg #[.bool sq, .slice mq kq cq]) (sg (b1 != b2) (n1 / n2)) ∧ RInt w' (.agg #[.bool false, .slice mr kr cr]) (sg b1 (n1 % n2))) (fun _ => true) 4 #[false, false, false, false] (by kernel_rfl) rfl rfl ?_
    have HF := hide (And.intro (HB.out.drew) (And.intro (P0.out.drew) (And.intro (P1.out.drew) (And.intro (PQ.out.drew) (And.intro (PR.out.drew) (And.intro (IQ.out.drew) (IR.out.drew)))))))
    generalize w5.drew = w5d at *
    refine Calm.take (i := 0) (v := ?_) (a' := ?_) (l' := #[true, false, false, false]) (d := some 40) rfl (by kernel_rfl) (by kernel_rfl) (by kernel_rfl) (by kernel_rfl) (fun _ _ _ h => h) HF.out rfl ?_ rfl rfl ?_ ?_
    rotate_left
    · intro w' hF; have f10 := hF.2.1.cell0; have f11 := hF.2.1.cell1; have f20 := hF.2.2.1.cell0; have f21 := hF.2.2.1.cell1; have f30 := hF.2.2.2.1.cell0; have f31 := hF.2.2.2.1.cell1; have f40 := hF.2.2.2.2.1.cell0; have f41 := hF.2.2.2.2.1.cell1; clear hF; go_simp; try rfl
    rotate_left
    · simp only [Act.put]; exact rfl
    refine Calm.take (i := 1) (v := ?_) (a' := ?_) (l' := #[true, true, false, false]) (d := some 41) rfl (by kernel_rfl) (by kernel_rfl) (by kernel_rfl) (by kernel_rfl) (fun _ _ _ h => h) HF.out rfl ?_ rfl rfl ?_ ?_
    rotate_left
    · intro w' hF; have f10 := hF.2.1.cell0; have f11 := hF.2.1.cell1; have f20 := hF.2.2.1.cell0; have f21 := hF.2.2.1.cell1; have f30 := hF.2.2.2.1.cell0; have f31 := hF.2.2.2.1.cell1; have f40 := hF.2.2.2.2.1.cell0; have f41 := hF.2.2.2.2.1.cell1; clear hF; go_simp; try rfl
    rotate_left
    · simp only [Act.put]; exact rfl
    refine Calm.one (i := 2) (l' := #[true, true, true, false]) (by kernel_rfl) rfl rfl rfl fun K hK => ?_
    have hc0 := P2.out.cell0
    have hc1 := P2.out.cell1
    have hf0 := P2.out.free 0
    have hf1 := P2.out.free 1
    go_simp
    have HF' := hide (And.intro (below_put HF.out.1 (show w.heap.size ≤ (w.heap.size + 1 + 1) by have hx := LTS.out; omega) (.bool sq) (.slice mq kq cq)) (And.intro (HF.out.2.1.other (C := (w.heap.size + 1 + 1)) (by have hx := LTS.out; omega) (.bool sq) (.slice mq kq cq)) (And.intro (HF.out.2.2.1.other (C := (w.heap.size + 1 + 1)) (by have hx := LTS.out; omega) (.bool sq) (.slice mq kq cq)) (And.intro (HF.out.2.2.2.1.other (C := (w.heap.size + 1 + 1)) (by have hx := LTS.out; omega) (.bool sq) (.slice mq kq cq)) (And.intro (HF.out.2.2.2.2.1.other (C := (w.heap.size + 1 + 1)) (by have hx := LTS.out; omega) (.bool sq) (.slice mq kq cq)) (And.intro (HF.out.2.2.2.2.2.1.keep (P2.out.keeps (by simp) (by simp) (.bool sq) (.slice mq kq cq))) (HF.out.2.2.2.2.2.2.keep (P2.out.keeps (by simp) (by simp) (.bool sq) (.slice mq kq cq)))))))))
    replace P3 := hide (P3.out.other (C := (w.heap.size + 1 + 1)) (by have hx := LTS.out; omega) (.bool sq) (.slice mq kq cq))
    replace P2 := hide (P2.out.put (.bool sq) (.slice mq kq cq))
    refine hK _ _ (fun _ => HF'.out) ?_
    clear hK K HF hc0 hf0 hc1 hf1
    have HF := hide HF'.out
    clear HF'
    generalize ((w5d.setCell ⟨(w.heap.size + 1 + 1), 0, none⟩ (.bool sq)).setCell ⟨(w.heap.size + 1 + 1), 1, none⟩ (.slice mq kq cq)) = wt1 at *
    refine Calm.one (i := 3) (l' := #[true, true, true, true]) (by kernel_rfl) rfl rfl rfl fun K hK => ?_
    have hc0 := P3.out.cell0
    have hc1 := P3.out.cell1
    have hf0 := P3.out.free 0
    have hf1 := P3.out.free 1
    go_simp
    have HF' := hide (And.intro (below_put HF.out.1 (show w.heap.size ≤ (w.heap.size + 1 + 1 + 1) by have hx := LTS.out; omega) (.bool false) (.slice mr kr cr)) (And.intro (HF.out.2.1.other (C := (w.heap.size + 1 + 1 + 1)) (by have hx := LTS.out; omega) (.bool false) (.slice mr kr cr)) (And.intro (HF.out.2.2.1.other (C := (w.heap.size + 1 + 1 + 1)) (by have hx := LTS.out; omega) (.bool false) (.slice mr kr cr)) (And.intro (HF.out.2.2.2.1.other (C := (w.heap.size + 1 + 1 + 1)) (by have hx := LTS.out; omega) (.bool false) (.slice mr kr cr)) (And.intro (HF.out.2.2.2.2.1.other (C := (w.heap.size + 1 + 1 + 1)) (by have hx := LTS.out; omega) (.bool false) (.slice mr kr cr)) (And.intro (HF.out.2.2.2.2.2.1.keep (P3.out.keeps (by simp) (by simp) (.bool false) (.slice mr kr cr))) (HF.out.2.2.2.2.2.2.keep (P3.out.keeps (by simp) (by simp) (.bool false) (.slice mr kr cr)))))))))
    replace P2 := hide (P2.out.other (C := (w.heap.size + 1 + 1 + 1)) (by have hx := LTS.out; omega) (.bool false) (.slice mr kr cr))
    replace P3 := hide (P3.out.put (.bool false) (.slice mr kr cr))
    refine hK _ _ (fun _ => HF'.out) ?_
    clear hK K HF hc0 hf0 hc1 hf1
    have HF := hide HF'.out
    clear HF'
    generalize ((wt1.setCell ⟨(w.heap.size + 1 + 1 + 1), 0, none⟩ (.bool false)).setCell ⟨(w.heap.size + 1 + 1 + 1), 1, none⟩ (.slice mr kr cr)) = wt2 at *
    refine Calm.done (by kernel_rfl) ?_
    go_wp2
    refine ret_two rfl (w.heap.size + 1 + 1) (w.heap.size + 1 + 1 + 1) _ _ _ _ rfl rfl P2.out P3.out rfl ?_
    exact ⟨_, _, rfl, (div_plain b1 b2 n1 n2 hy (by have := HS.out; omega)).1 ▸ HF.out.2.2.2.2.2.1, (div_plain b1 b2 n1 n2 hy (by have := HS.out; omega)).2 ▸ HF.out.2.2.2.2.2.2, HF.out.1⟩
end Go.Proofs.YtenmogmdijnlhaaDoor
