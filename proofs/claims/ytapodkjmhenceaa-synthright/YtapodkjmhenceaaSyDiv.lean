/- synth.apart, synth.amount, synth.Divisors. -/
import Derived.Test.YtapodkjmhenceaaSyRt
import Derived.Test.YtapodkjmhenceaaSyDm
import Derived.Test.YtapodkjmhenceaaShelf
import Derived.Sort.OwnSortedInts
import Derived.Laws.AppendOwn
namespace Go.Proofs.Ytapodkjmhenceaa
open Go.RowKit Go.Shelf Go.Sort

set_option maxRecDepth 100000 in
set_option maxHeartbeats 2000000 in
theorem amount_any (n : Int) (w : World) (h : -1000 ≤ n) (k : n ≤ 1000) :
    Calls Try.prog 126 #[.int .i64 n] w fun e w' => e = .returned (.int .i64 (n.natAbs : Int)) ∧ Below w.heap.size w w' := by
  by_cases h0 : n < -n
  · have e : (n.natAbs : Int) = -n := by omega
    rw [e]
    clear e
    go_enter Try.func126, Try.ntmps126
    go_wp2
    go_ret
    exact ⟨by go_num, Below.refl _ _⟩
  · have e : (n.natAbs : Int) = n := by omega
    rw [e]
    clear e
    go_enter Try.func126, Try.ntmps126
    go_wp2
    go_ret
    exact ⟨by go_num, Below.refl _ _⟩
theorem norm_is_in {a b : Int} (h : inB a b = true) : inB (nA a b) (nB a b) = true := by
  have hi := in_yes h
  obtain ⟨h1, h2, h3, h4, _⟩ := fine hi.1.1 hi.1.2 hi.2.1 hi.2.2
  unfold inB sm
  simp [h1, h2, h3, h4]
set_option maxRecDepth 100000 in
set_option maxHeartbeats 4000000 in
theorem apart_any (a b c d : Int) (w : World) (h : inB a b = true) (k : inB c d = true) :
    Calls Try.prog 83 #[.agg #[.int .i64 a, .int .i64 b], .agg #[.int .i64 c, .int .i64 d]] w fun e w' => e = .returned (.int .i64 ((detI (nA a b) (nB a b) (nA c d) (nB c d)).natAbs : Int)) ∧ Below w.heap.size w w' := by
  have b1 := below_alloc w (.cells #[.int .i64 a, .int .i64 b] 61)
  have b2 := below_alloc (w.alloc (.cells #[.int .i64 a, .int .i64 b] 61)) (.cells #[.int .i64 c, .int .i64 d] 61)
  have P0 := hide ((Box2.new w 61 (.int .i64 a) (.int .i64 b)).step b2)
  have P1 := Box2.new (w.alloc (.cells #[.int .i64 a, .int .i64 b] 61)) 61 (.int .i64 c) (.int .i64 d)
  rw [World.size_alloc] at P1
  replace P1 := hide P1
  have HB := hide (b1.trans (b2.mono b1.size))
  have N1 := hide (norm_is_in h)
  have N2 := hide (norm_is_in k)
  have DS : Hid (-512 ≤ detI (nA a b) (nB a b) (nA c d) (nB c d) ∧ detI (nA a b) (nB a b) (nA c d) (nB c d) ≤ 512) := hide (by
    have i1 := in_yes N1.out
    have i2 := in_yes N2.out
    have := det_small i1.1.1 i1.1.2 i1.2.1 i1.2.2 i2.1.1 i2.1.2 i2.2.1 i2.2.2
    exact ⟨this.1, this.2.1⟩)
  clear b1 b2
  obtain ⟨p, hp⟩ : ∃ p, p = nA a b := ⟨_, rfl⟩
  obtain ⟨q, hq⟩ : ∃ q, q = nB a b := ⟨_, rfl⟩
  obtain ⟨r, hr⟩ : ∃ r, r = nA c d := ⟨_, rfl⟩
  obtain ⟨s, hs⟩ : ∃ s, s = nB c d := ⟨_, rfl⟩
  have C1 : Hid (∀ u, Calls Try.prog 68 #[.agg #[.int .i64 a, .int .i64 b]] u fun e w' => e = .returned (.tuple #[.agg #[.int .i64 p, .int .i64 q], .int .i64 0]) ∧ Below u.heap.size u w') := hide (by rw [hp, hq]; exact fun u => norm_in a b u h)
  have C2 : Hid (∀ u, Calls Try.prog 68 #[.agg #[.int .i64 c, .int .i64 d]] u fun e w' => e = .returned (.tuple #[.agg #[.int .i64 r, .int .i64 s], .int .i64 0]) ∧ Below u.heap.size u w') := hide (by rw [hr, hs]; exact fun u => norm_in c d u k)
  rw [← hp, ← hq] at N1
  rw [← hr, ← hs] at N2
  rw [← hp, ← hq, ← hr, ← hs] at DS
  rw [← hp, ← hq, ← hr, ← hs]
  obtain ⟨dd, hdd⟩ : ∃ dd, dd = detI p q r s := ⟨_, rfl⟩
  have C3 : Hid (∀ u, Calls Try.prog 125 #[.agg #[.int .i64 p, .int .i64 q], .agg #[.int .i64 r, .int .i64 s]] u fun e w' => e = .returned (.tuple #[.int .i64 dd, .int .i64 0]) ∧ Below u.heap.size u w') := hide (by rw [hdd]; exact fun u => det_in p q r s u N1.out N2.out)
  rw [← hdd] at DS
  rw [← hdd]
  clear hp hq hr hs hdd h k N1 N2
  go_enter Try.func83, Try.ntmps83
  go_wp2_with fail
  generalize (w.alloc (.cells #[.int .i64 a, .int .i64 b] 61)).alloc (.cells #[.int .i64 c, .int .i64 d] 61) = w0 at *
  refine (C1.out _).mono ?_
  rintro e w1 ⟨rfl, hb⟩
  replace P0 := hide (P0.out.step hb)
  replace P1 := hide (P1.out.step hb)
  replace HB := hide (HB.out.trans (hb.mono HB.out.size))
  clear hb
  have c0 := P0.out.cell0
  have c1 := P0.out.cell1
  have f0 := P0.out.free 0
  have f1 := P0.out.free 1
  have d0 := P1.out.cell0
  have d1 := P1.out.cell1
  go_wp2_with fail
  clear c0 c1 f0 f1 d0 d1
  replace P1 := hide ((P1.out.set_ne (C := w.heap.size) (by omega) (.int .i64 p) (o := 0)).set_ne (C := w.heap.size) (by omega) (.int .i64 q) (o := 1))
  replace P0 := hide ((P0.out.set0 (.int .i64 p)).set1 (.int .i64 q))
  replace HB := hide ((HB.out.setCell (p := ⟨w.heap.size, 0, none⟩) (Nat.le_refl _) (.int .i64 p)).setCell (p := ⟨w.heap.size, 1, none⟩) (Nat.le_refl _) (.int .i64 q))
  generalize (w1.setCell ⟨w.heap.size, 0, none⟩ (.int .i64 p)).setCell ⟨w.heap.size, 1, none⟩ (.int .i64 q) = w2 at *
  refine (C2.out _).mono ?_
  rintro e w3 ⟨rfl, hb⟩
  replace P0 := hide (P0.out.step hb)
  replace P1 := hide (P1.out.step hb)
  replace HB := hide (HB.out.trans (hb.mono HB.out.size))
  clear hb
  have c0 := P0.out.cell0
  have c1 := P0.out.cell1
  have d0 := P1.out.cell0
  have d1 := P1.out.cell1
  have f0 := P1.out.free 0
  have f1 := P1.out.free 1
  go_wp2_with fail
  clear c0 c1 f0 f1 d0 d1
  replace HB := hide ((HB.out.setCell (p := ⟨w.heap.size + 1, 0, none⟩) (Nat.le_succ _) (.int .i64 r)).setCell (p := ⟨w.heap.size + 1, 1, none⟩) (Nat.le_succ _) (.int .i64 s))
  refine (C3.out _).mono ?_
  rintro e w4 ⟨rfl, hb⟩
  replace HB := hide (HB.out.trans (hb.mono HB.out.size))
  clear hb P0 P1
  go_wp2_with fail
  refine (amount_any dd _ (by have := DS.out; omega) (by have := DS.out; omega)).mono ?_
  rintro e w5 ⟨rfl, hb⟩
  replace HB := hide (HB.out.trans (hb.mono HB.out.size))
  clear hb
  go_wp2
  go_ret
  exact ⟨rfl, HB.out⟩

/-- a list of whole numbers of the call's own -/
def OwnI (w : World) (base : Nat) (v : Value) (zs : List Int) : Prop := w.ownsRow base 3 1 v zs.length (zs.map (Value.int .i64))
theorem OwnI.below {w w' : World} {base : Nat} {v : Value} {zs : List Int} (h : OwnI w base v zs) (hb : Below w.heap.size w w') : OwnI w' base v zs := by
  refine ⟨h.1, ?_⟩
  rcases h.2 with h0 | ⟨g, cap, cur, e1, e2, hgg, rest⟩
  · exact .inl h0
  · exact .inr ⟨g, cap, cur, e1, e2, (hb.block g (Array.getElem?_eq_some_iff.1 hgg).1).trans hgg, rest⟩
theorem OwnI.ge {w : World} {base : Nat} {v : Value} {zs : List Int} (h : OwnI w base v zs) {g : Nat} (hv : v.ownBlock = some g) : base ≤ g := (World.ownsRow.lt h _ hv).1
theorem OwnI.slice {w : World} {base : Nat} {v : Value} {zs : List Int} (h : OwnI w base v zs) : ∃ a cap, v = .slice a zs.length cap ∧ zs.length ≤ cap ∧ cap ≤ maxLen := by
  rcases h.2 with ⟨rfl, h0⟩ | ⟨g, cap, cur, rfl, _, _, hn, hm, _⟩
  · exact ⟨none, 0, by rw [h0], by omega, Nat.zero_le _⟩
  · exact ⟨_, cap, rfl, hn, hm⟩
theorem own_type {w : World} {base : Nat} {v : Value} {zs : List Int} {g : Nat} (h : OwnI w base v zs) (hv : v.ownBlock = some g) : ∃ (cur : Array Value) (fr : Nat × Nat), w.heap[g]? = some (.cells cur 3 fr) := by
  rcases h.2 with ⟨rfl, _⟩ | ⟨g', cap, cur, e1, _, hgg, _⟩
  · cases hv
  · rw [e1] at hv
    have e : g' = g := by simpa [Value.ownBlock] using hv
    subst e
    exact ⟨cur, _, hgg⟩
theorem own_ne {w : World} {base : Nat} {v : Value} {zs : List Int} {g : Nat} {x y : Value} (h : OwnI w base v zs) (hb : Box2 w g 61 x y) : v.ownBlock ≠ some g := by
  intro e
  obtain ⟨cur, fr, hty⟩ := own_type h e
  rw [show w.heap[g]? = _ from hb] at hty
  simp at hty
theorem box_grown {w w' : World} {g : Nat} {t : TypeId} {x y : Value} {row : Option Nat} (h : Box2 w g t x y) (hg : w.grownBy w' row) (hne : row ≠ some g) : Box2 w' g t x y :=
  (hg.block g h.lt (fun e => hne e.symm)).trans h
/-- a list of whole numbers -/
def IntsL (w : World) (v : Value) (zs : List Int) : Prop :=
  ∃ a cap, v = .slice a zs.length cap ∧ zs.length ≤ cap ∧ cap ≤ maxLen ∧ ∀ j, j < zs.length → ∃ b off, a = some ⟨b, off, none⟩ ∧ w.cell? ⟨b, off + j, none⟩ = some (.int .i64 (zs.getD j 0))
theorem IntsL.below {w w' : World} {v : Value} {zs : List Int} (h : IntsL w v zs) (hb : Below w.heap.size w w') : IntsL w' v zs := by
  obtain ⟨a, cap, rfl, h1, h2, h3⟩ := h
  refine ⟨a, cap, rfl, h1, h2, fun j hj => ?_⟩
  obtain ⟨b, off, e, k⟩ := h3 j hj
  exact ⟨b, off, e, (hb.cell (World.block_lt_of_cell? w _ k)).trans k⟩
theorem OwnI.ints {w : World} {base : Nat} {v : Value} {zs : List Int} (h : OwnI w base v zs) : IntsL w v zs := by
  have h' := h
  rcases h'.2 with ⟨rfl, h0⟩ | ⟨g, cap, cur, rfl, _, _, hn, hm, _⟩
  · exact ⟨none, 0, by rw [h0], by omega, Nat.zero_le _, fun j hj => absurd hj (by omega)⟩
  · refine ⟨_, cap, rfl, hn, hm, fun j hj => ⟨g, 0, rfl, ?_⟩⟩
    rw [Nat.zero_add, World.ownsRow.cellAt h j (by simpa using hj), List.getElem?_map, List.getElem?_eq_getElem hj, List.getD_eq_getElem?_getD, List.getElem?_eq_getElem hj]
    rfl
theorem OwnI.snoc {w : World} {base : Nat} {v : Value} {zs : List Int} {z : Int} (h : w.ownsRow base 3 1 v (zs.length + 1) (zs.map (Value.int .i64) ++ [.int .i64 z])) : OwnI w base v (zs ++ [z]) := by
  unfold OwnI
  rw [List.map_append, List.length_append]
  exact h
theorem PtsAt.cell {w : World} {b off n cap : Nat} {ps : List (Int × Int)} (h : PtsAt w (.slice (some ⟨b, off, none⟩) n cap) ps) {i : Nat} (hi : i < ps.length) : PtC w b (off + i * 2) (pA ps i) (pB ps i) := by
  obtain ⟨b', off', e, hc⟩ := h.at2 hi
  simp only [Option.some.injEq, Addr.mk.injEq] at e
  obtain ⟨rfl, rfl, _⟩ := e
  exact hc
theorem Try.infoInt1 : (Try.prog.info? 3).map (fun i => (i.zero, i.size, i.bytes)) = some (some (.int .i64 0), 1, 8) := by kernel_rfl
theorem sorted_below {w : World} {g n : Nat} {os : Array Obj} {base : Nat} (d : Array Int) (h : base ≤ g) (hw : base ≤ w.heap.size) {A : World} (hA : Below base A w) : Below base A (grow (putRow (Value.int .i64) (Sort.ahead w n) g 0 d) os) :=
  hA.grown (grownBy_sortedI (w := w) (g := g) (n := n) (os := os) d) hw (fun r e => by simp only [Option.some.injEq] at e; omega)

set_option maxHeartbeats 4000000 in
/-- sorted and each once: slices.Sort, slices.Compact at a list of one's own -/
theorem sort_any (v : Value) (zs : List Int) (base : Nat) (A w : World) (h : OwnI w base v zs) (hA : Below base A w) (hw : base ≤ w.heap.size) (hl : zs.length ≤ 100000) :
    Calls Try.prog 84 #[v] w fun e w1 => e = .returned (.tuple #[]) ∧ Below base A w1 ∧ base ≤ w1.heap.size ∧
      Calls Try.prog 85 #[v] w1 fun e w2 => ∃ u, e = .returned u ∧ IntsL w2 u (Lib.compact (srtd zs)) ∧ Below base A w2 ∧ base ≤ w2.heap.size := by
  rcases h.2 with ⟨rfl, h0⟩ | ⟨g, cap, cur, rfl, hbg, hgg, hn, hm, hcs, ht⟩
  · have e : zs = [] := List.eq_nil_of_length_eq_zero h0
    subst e
    refine (Try.slices_Sort_int_none none 0 w).mono ?_
    rintro e w1 ⟨rfl, rfl⟩
    refine ⟨rfl, hA, hw, (Try.slices_Compact_int_empty none 0 w1).mono ?_⟩
    rintro e w2 ⟨rfl, rfl⟩
    have e0 : Lib.compact (srtd []) = [] := by simp [Lib.compact, Lib.compactUpTo, srtd]
    rw [e0]
    exact ⟨_, rfl, ⟨none, 0, rfl, Nat.le_refl _, Nat.zero_le _, fun j hj => absurd hj (by simp)⟩, hA, hw⟩
  · have hH : Holds (Value.int .i64) w g 0 zs.toArray := holds_of_blockI hgg (by simpa using ht)
    have hlt : g < w.heap.size := (Array.getElem?_eq_some_iff.1 hgg).1
    refine (Try.slices_Sort_int g 0 cap zs w hH hlt (by omega)).mono ?_
    rintro e w1 ⟨rfl, n, os, rfl⟩
    have B1 := sorted_below (n := n) (os := os) (srtd zs).toArray hbg hw hA
    have hH1 : Holds (Value.int .i64) (grow (putRow (Value.int .i64) (Sort.ahead w n) g 0 (srtd zs).toArray) os) g 0 (srtd zs).toArray := by
      refine holds_grow _ _ _ _ _ _ (by simpa [Sort.ahead] using hlt) ?_
      exact holds_putRow _ (Sort.ahead w n) g 0 zs.toArray (srtd zs).toArray hH (by simp [srtd_len])
    have hs1 : base ≤ (grow (putRow (Value.int .i64) (Sort.ahead w n) g 0 (srtd zs).toArray) os).heap.size := by
      rw [size_grow, size_putRow]
      have : (Sort.ahead w n).heap.size = w.heap.size := rfl
      omega
    refine ⟨rfl, B1, hs1, ?_⟩
    show Calls _ _ _ (grow (putRow (Value.int .i64) (Sort.ahead w n) g 0 (srtd zs).toArray) os) _
    generalize grow (putRow (Value.int .i64) (Sort.ahead w n) g 0 (srtd zs).toArray) os = w1 at *
    have hl1 := srtd_len zs
    generalize srtd zs = ts at *
    have hc := Try.slices_Compact_int g 0 cap ts w1 hH1 (by omega) (by omega)
    rw [hl1] at hc
    refine hc.mono ?_
    rintro e w2 ⟨rfl, q, rfl⟩
    have hcl := compact_len ts
    have hH2 := holds_putRow (Value.int .i64) (Sort.ahead w1 q) g 0 ts.toArray (Lib.compact ts ++ List.replicate (zs.length - (Lib.compact ts).length) 0).toArray hH1 (by simp; omega)
    refine ⟨_, rfl, ⟨_, cap, rfl, by omega, hm, fun j hj => ⟨g, 0, rfl, ?_⟩⟩, ?_, ?_⟩
    · have := (hH2 j (by simp; omega)).1
      rw [this, getElem!_pos _ j (by simp; omega)]
      congr 2
      simp [List.getElem_append_left hj, List.getD_eq_getElem?_getD, List.getElem?_eq_getElem hj]
    · have := sorted_below (w := w1) (n := q) (os := #[]) (Lib.compact ts ++ List.replicate (zs.length - (Lib.compact ts).length) 0).toArray hbg hs1 B1
      rwa [grow_empty] at this
    · rw [size_putRow]; exact hs1
end Go.Proofs.Ytapodkjmhenceaa
