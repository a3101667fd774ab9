/- swageref12.Divisors: the amounts by which is divided. -/
import Derived.Test.YtapodkjmhenceaaSyDiv
import Derived.Test.YtapodkjmhenceaaCalmL
namespace Go.Proofs.Ytapodkjmhenceaa
open Go.RowKit Go.Shelf Go.Sort

/-- block B marks these numbers -/
structure HasAt (w : World) (B : Nat) (S : Nat → Bool) : Prop where
  cells : ∀ d, d < 513 → w.cell? ⟨B, d, none⟩ = some (.bool (S d))
  free : ∀ d, w.frozen? ⟨B, d, none⟩ = false
  lt : B < w.heap.size
theorem HasAt.step {w w' : World} {B : Nat} {S : Nat → Bool} (h : HasAt w B S) (hb : Below w.heap.size w w') : HasAt w' B S :=
  ⟨fun i hi => (hb.cell h.lt).trans (h.cells i hi), fun o => (hb.frozen h.lt).trans (h.free o), Nat.lt_of_lt_of_le h.lt hb.size⟩
theorem HasAt.drew {w : World} {B : Nat} {S : Nat → Bool} (h : HasAt w B S) : HasAt w.drew B S := ⟨h.cells, h.free, h.lt⟩
theorem HasAt.put {w : World} {B k : Nat} {S : Nat → Bool} (h : HasAt w B S) (hk : k < 513) : HasAt (w.setCell ⟨B, k, none⟩ (.bool true)) B (fun d => if d = k then true else S d) := by
  refine ⟨fun i hi => ?_, fun o => by rw [World.frozen?_setCell]; exact h.free o, by simpa using h.lt⟩
  by_cases e : i = k
  · subst e
    rw [if_pos rfl]
    exact World.cell?_setCell_same' w _ _ (by rw [h.cells i hi]; rfl)
  · rw [if_neg e, World.cell?_setCell_other]
    · exact h.cells i hi
    · intro e2; simp only [Addr.mk.injEq] at e2; exact e e2.2.1.symm
theorem Try.zeroHas : Try.zeroCells144 = Array.replicate 513 (.bool false) := by kernel_rfl
theorem HasAt.new (w : World) (t : TypeId) : HasAt (w.alloc (.cells Try.zeroCells144 t)) w.heap.size (fun _ => false) := by
  rw [Try.zeroHas]
  have hh : (w.alloc (.cells (Array.replicate 513 (.bool false)) t)).heap[w.heap.size]? = some (.cells (Array.replicate 513 (.bool false)) t (0, 0)) := heap_alloc_new _ _
  have hlt : w.heap.size < (w.alloc (.cells (Array.replicate 513 (.bool false)) t)).heap.size := by simp
  generalize w.alloc (.cells (Array.replicate 513 (.bool false)) t) = W at *
  refine ⟨fun i hi => ?_, fun o => by unfold World.frozen?; simp only [hh]; simp, hlt⟩
  unfold World.cell?
  simp only [hh]
  rw [Array.getElem?_replicate, if_pos hi]
  rfl
theorem has_grown {w w' : World} {B : Nat} {S : Nat → Bool} {row : Option Nat} (h : HasAt w B S) (hg : w.grownBy w' row) (hne : row = some B → False) : HasAt w' B S := by
  have hb : w'.heap[B]? = w.heap[B]? := hg.block B h.lt (fun e => hne e.symm)
  refine ⟨fun i hi => ?_, fun o => ?_, Nat.lt_of_lt_of_le h.lt hg.size⟩
  · have := h.cells i hi
    unfold World.cell? at *
    simp only [hb]
    exact this
  · have := h.free o
    unfold World.frozen? at *
    simp only [hb]
    exact this
/-- what is marked when the points ahead of j are through, and with j those ahead of i -/
def MarkB (ps : List (Int × Int)) (j i : Nat) (S : Nat → Bool) : Prop := ∀ d, S d = true ↔ (∃ i' j', i' < j' ∧ j' < j ∧ dst ps i' j' = d) ∨ ∃ i', i' < i ∧ dst ps i' j = d
theorem MarkB.next {ps : List (Int × Int)} {j i : Nat} {S : Nat → Bool} (h : MarkB ps j i S) : MarkB ps j (i + 1) (fun d => if d = dst ps i j then true else S d) := by
  intro d
  show (if d = dst ps i j then true else S d) = true ↔ _
  by_cases e : d = dst ps i j
  · rw [if_pos e]
    exact ⟨fun _ => .inr ⟨i, by omega, e.symm⟩, fun _ => rfl⟩
  · rw [if_neg e, h d]
    constructor
    · rintro (h | ⟨i', h1, h2⟩)
      · exact .inl h
      · exact .inr ⟨i', by omega, h2⟩
    · rintro (h | ⟨i', h1, h2⟩)
      · exact .inl h
      · rcases Nat.lt_succ_iff_lt_or_eq.1 h1 with l | rfl
        · exact .inr ⟨i', l, h2⟩
        · exact absurd h2.symm e
theorem MarkB.turn {ps : List (Int × Int)} {j : Nat} {S : Nat → Bool} (h : MarkB ps j j S) : MarkB ps (j + 1) 0 S := by
  intro d
  rw [h d]
  constructor
  · rintro (⟨i', j', h1, h2, h3⟩ | ⟨i', h1, h2⟩)
    · exact .inl ⟨i', j', h1, by omega, h3⟩
    · exact .inl ⟨i', j, h1, by omega, h2⟩
  · rintro (⟨i', j', h1, h2, h3⟩ | ⟨i', h1, h2⟩)
    · rcases Nat.lt_succ_iff_lt_or_eq.1 h2 with l | rfl
      · exact .inl ⟨i', j', h1, l, h3⟩
      · exact .inr ⟨i', h1, h3⟩
    · omega
theorem MarkB.start (ps : List (Int × Int)) : MarkB ps 0 0 (fun _ => false) := by
  intro d
  constructor
  · intro h; cases h
  · rintro (⟨i', j', h1, h2, h3⟩ | ⟨i', h1, h2⟩) <;> omega
/-- the marked numbers from 2 up to below n -/
def pick (S : Nat → Bool) (n : Nat) : List Int := ((List.range n).filter fun d => decide (2 ≤ d) && S d).map fun d : Nat => (d : Int)
theorem pick_succ (S : Nat → Bool) (n : Nat) (h : 2 ≤ n) : pick S (n + 1) = pick S n ++ (if S n = true then [(n : Int)] else []) := by
  unfold pick
  rw [List.range_succ, List.filter_append, List.map_append]
  congr 1
  by_cases hs : S n = true
  · simp [h, hs]
  · simp [h, hs]
theorem pick_two (S : Nat → Bool) : pick S 2 = [] := by
  unfold pick
  rw [List.map_eq_nil_iff, List.filter_eq_nil_iff]
  intro d hd
  have := List.mem_range.1 hd
  simp
  omega
theorem pick_len (S : Nat → Bool) (n : Nat) : (pick S n).length ≤ n := by
  unfold pick
  rw [List.length_map]
  have := List.length_filter_le (fun d => decide (2 ≤ d) && S d) (List.range n)
  rw [List.length_range] at this
  exact this
theorem dst_small {ps : List (Int × Int)} (hr : Rgt ps) {i j : Nat} (hi : i < ps.length) (hj : j < ps.length) : dst ps i j ≤ 512 := by
  have i1 := in_yes (norm_is_in (hr.each i hi).1)
  have i2 := in_yes (norm_is_in (hr.each j hj).1)
  have := det_small i1.1.1 i1.1.2 i1.2.1 i1.2.2 i2.1.1 i2.1.2 i2.2.1 i2.2.2
  unfold dst
  omega
theorem pick_div {ps : List (Int × Int)} (hr : Rgt ps) {S : Nat → Bool} (h : MarkB ps ps.length 0 S) : DivL ps (pick S 513) := by
  constructor
  · unfold pick
    rw [List.pairwise_map]
    exact (List.pairwise_lt_range.filter _).imp (by intro a b h; omega)
  · intro z
    unfold pick
    rw [List.mem_map]
    constructor
    · rintro ⟨d, hd, rfl⟩
      obtain ⟨h1, h2⟩ := List.mem_filter.1 hd
      simp only [Bool.and_eq_true, decide_eq_true_eq] at h2
      rcases (h d).1 h2.2 with ⟨i', j', k1, k2, k3⟩ | ⟨i', k1, _⟩
      · exact ⟨i', j', k1, k2, by omega, by omega⟩
      · omega
    · rintro ⟨i', j', k1, k2, k3, rfl⟩
      have := dst_small hr (i := i') (j := j') (by omega) k2
      refine ⟨dst ps i' j', List.mem_filter.2 ⟨List.mem_range.2 (by omega), ?_⟩, rfl⟩
      simp only [Bool.and_eq_true, decide_eq_true_eq]
      exact ⟨by omega, (h _).2 (.inl ⟨i', j', k1, k2, rfl⟩)⟩

set_option maxRecDepth 100000 in
set_option maxHeartbeats 8000000 in
theorem rdv_any (va : Value) (ps : List (Int × Int)) (w : World) (h : PtsAt w va ps) (hr : Rgt ps) :
    Calls Try.prog 35 #[va] w fun e w' => ∃ v zs, e = .returned v ∧ DivL ps zs ∧ IntsL w' v zs ∧ Below w.heap.size w w' := by
  obtain ⟨i0, hi0, hz0, hz1, hz2⟩ := info_parts Try.infoInt1
  have TR := hide (And.intro hi0 (And.intro hz0 (And.intro hz1 hz2)))
  clear hi0 hz0 hz1 hz2
  have HI := hide h
  have RG := hide hr
  obtain ⟨a, cap, rfl, hcap, hmx, _⟩ := h
  unfold maxLen at hmx
  have L15 := hr.hi
  have L1 := hr.lo
  clear hr
  obtain ⟨b, off, rfl, _⟩ := HI.out.at2 (i := 0) (by omega)
  go_enter Try.func35, Try.ntmps35
  go_upto_region 2 with fail
  have HH := hide (HasAt.new w 144)
  have HB := hide (below_alloc w (.cells Try.zeroCells144 144))
  generalize w.alloc (.cells Try.zeroCells144 144) = w0 at *
  go_wp2
  go_loopw [4, 5, 6] (fun jv _ _ wr => ∃ (j : Nat) (S : Nat → Bool), j ≤ ps.length ∧ jv = .int .i64 j ∧ MarkB ps j 0 S ∧ HasAt wr w.heap.size S ∧ Below w.heap.size w wr) (fun jv _ _ _ => ps.length - (intOf jv).toNat)
  case atStart => exact ⟨0, _, Nat.zero_le _, rfl, MarkB.start ps, HH.out, HB.out⟩
  case round =>
    clear HH HB
    obtain ⟨j, S, hj, rfl, hm, hh, hb⟩ := hrel
    have MB := hide hm
    have HH := hide hh
    have HB := hide hb
    clear hm hh hb
    by_cases hlt : j < ps.length
    · go_wp2
      go_loopw [5, 6] (fun iv _ wr => ∃ (i : Nat) (S : Nat → Bool), i ≤ j ∧ iv = .int .i64 i ∧ MarkB ps j i S ∧ HasAt wr w.heap.size S ∧ Below w.heap.size w wr) (fun iv _ _ => j - (intOf iv).toNat)
      case atStart => exact ⟨0, S, Nat.zero_le _, rfl, MB.out, HH.out, HB.out⟩
      case round =>
        clear MB HH HB
        clear S
        obtain ⟨i, S, hi, rfl, hm, hh, hb⟩ := hrel
        have MB := hide hm
        have HH := hide hh
        have HB := hide hb
        clear hm hh hb
        by_cases hlt2 : i < j
        · have hli : i < ps.length := by omega
          have P1 := hide ((HI.out.below HB.out).cell hli)
          have P2 := hide ((HI.out.below HB.out).cell hlt)
          have I1 := in_yes (RG.out.each i hli).1
          have I2 := in_yes (RG.out.each j hlt).1
          have N1 := norm_is_in (RG.out.each i hli).1
          have N2 := norm_is_in (RG.out.each j hlt).1
          have DS := hide (dst_small RG.out hli hlt)
          have MN := hide MB.out.next
          have DD : Hid ((detI (nA (pA ps i) (pB ps i)) (nB (pA ps i) (pB ps i)) (nA (pA ps j) (pB ps j)) (nB (pA ps j) (pB ps j))).natAbs = dst ps i j) := hide rfl
          obtain ⟨p, hp⟩ : ∃ p, p = nA (pA ps i) (pB ps i) := ⟨_, rfl⟩
          obtain ⟨q, hq⟩ : ∃ q, q = nB (pA ps i) (pB ps i) := ⟨_, rfl⟩
          obtain ⟨p', hp'⟩ : ∃ p', p' = nA (pA ps j) (pB ps j) := ⟨_, rfl⟩
          obtain ⟨q', hq'⟩ : ∃ q', q' = nB (pA ps j) (pB ps j) := ⟨_, rfl⟩
          have C1 : Hid (∀ u, Calls Try.prog 89 #[.agg #[.int .i64 (pA ps i), .int .i64 (pB ps i)]] u fun e w' => e = .returned (.agg #[.int .i64 p, .int .i64 q]) ∧ Below u.heap.size u w') := hide (by rw [hp, hq]; exact fun u => rnorm_any _ _ u I1.1.1 I1.1.2 I1.2.1 I1.2.2)
          have C2 : Hid (∀ u, Calls Try.prog 89 #[.agg #[.int .i64 (pA ps j), .int .i64 (pB ps j)]] u fun e w' => e = .returned (.agg #[.int .i64 p', .int .i64 q']) ∧ Below u.heap.size u w') := hide (by rw [hp', hq']; exact fun u => rnorm_any _ _ u I2.1.1 I2.1.2 I2.2.1 I2.2.2)
          rw [← hp, ← hq] at N1
          rw [← hp', ← hq'] at N2
          rw [← hp, ← hq, ← hp', ← hq'] at DD
          obtain ⟨dd, hdd⟩ : ∃ dd, dd = detI p q p' q' := ⟨_, rfl⟩
          have C3 : Hid (∀ u, Calls Try.prog 88 #[.agg #[.int .i64 p, .int .i64 q], .agg #[.int .i64 p', .int .i64 q']] u fun e w' => e = .returned (.int .i64 dd) ∧ Below u.heap.size u w') := hide (by rw [hdd]; exact fun u => rdet_any p q p' q' u N1 N2)
          rw [← hdd] at DD
          clear hp hq hp' hq' hdd N1 N2 I1 I2
          generalize pA ps i = x at *
          generalize pB ps i = y at *
          generalize pA ps j = x' at *
          generalize pB ps j = y' at *
          generalize dst ps i j = ds at *
          go_upto_region 8 with fail
          · skip
            refine wp_calm (fun w' => Below w.heap.size w w' ∧ PtC w' b (off + i * 2) x y ∧ PtC w' b (off + j * 2) x' y' ∧ HasAt w' w.heap.size S) (fun _ => true) 12 #[false, false, false, false, false, false, false, false, false, false, false, false] (by kernel_rfl) rfl rfl ?_
            have HF := hide (And.intro HB.out.drew (And.intro P1.out.drew (And.intro P2.out.drew HH.out.drew)))
            generalize wr.drew = wrd at *
            refine Calm.take (i := 0) (v := ?_) (a' := ?_) (l' := #[true, false, false, false, false, false, false, false, false, false, false, false]) (d := some 20) rfl (by kernel_rfl) (by kernel_rfl) (by kernel_rfl) (by kernel_rfl) (fun _ _ _ h => h) HF.out rfl ?_ rfl rfl ?_ ?_
            rotate_left
            · intro w' hF; clear hF; go_simp; try rfl
            rotate_left
            · simp only [Act.put]; exact rfl
            refine Calm.take (i := 1) (v := ?_) (a' := ?_) (l' := #[true, true, false, false, false, false, false, false, false, false, false, false]) (d := some 21) rfl (by kernel_rfl) (by kernel_rfl) (by kernel_rfl) (by kernel_rfl) (fun _ _ _ h => h) HF.out rfl ?_ rfl rfl ?_ ?_
            rotate_left
            · intro w' hF; clear hF; go_simp; try rfl
            rotate_left
            · simp only [Act.put]; exact rfl
            refine Calm.take (i := 2) (v := ?_) (a' := ?_) (l' := #[true, true, true, false, false, false, false, false, false, false, false, false]) (d := some 22) rfl (by kernel_rfl) (by kernel_rfl) (by kernel_rfl) (by kernel_rfl) (fun _ _ _ h => h) HF.out rfl ?_ rfl rfl ?_ ?_
            rotate_left
            · intro w' hF; clear hF; go_simp; try rfl
            rotate_left
            · simp only [Act.put]; exact rfl
            refine Calm.take (i := 3) (v := ?_) (a' := ?_) (l' := #[true, true, true, true, false, false, false, false, false, false, false, false]) (d := some 23) rfl (by kernel_rfl) (by kernel_rfl) (by kernel_rfl) (by kernel_rfl) (fun _ _ _ h => h) HF.out rfl ?_ rfl rfl ?_ ?_
            rotate_left
            · intro w' hF; have f10 := hF.2.1.cell0; have f11 := hF.2.1.cell1; have f20 := hF.2.2.1.cell0; have f21 := hF.2.2.1.cell1; clear hF; go_simp; try rfl
            rotate_left
            · simp only [Act.put]; exact rfl
            refine Calm.take (i := 5) (v := ?_) (a' := ?_) (l' := #[true, true, true, true, false, true, false, false, false, false, false, false]) (d := some 25) rfl (by kernel_rfl) (by kernel_rfl) (by kernel_rfl) (by kernel_rfl) (fun _ _ _ h => h) HF.out rfl ?_ rfl rfl ?_ ?_
            rotate_left
            · intro w' hF; clear hF; go_simp; try rfl
            rotate_left
            · simp only [Act.put]; exact rfl
            refine Calm.take (i := 6) (v := ?_) (a' := ?_) (l' := #[true, true, true, true, false, true, true, false, false, false, false, false]) (d := some 26) rfl (by kernel_rfl) (by kernel_rfl) (by kernel_rfl) (by kernel_rfl) (fun _ _ _ h => h) HF.out rfl ?_ rfl rfl ?_ ?_
            rotate_left
            · intro w' hF; clear hF; go_simp; try rfl
            rotate_left
            · simp only [Act.put]; exact rfl
            refine Calm.take (i := 7) (v := ?_) (a' := ?_) (l' := #[true, true, true, true, false, true, true, true, false, false, false, false]) (d := some 27) rfl (by kernel_rfl) (by kernel_rfl) (by kernel_rfl) (by kernel_rfl) (fun _ _ _ h => h) HF.out rfl ?_ rfl rfl ?_ ?_
            rotate_left
            · intro w' hF; clear hF; go_simp; try rfl
            rotate_left
            · simp only [Act.put]; exact rfl
            refine Calm.take (i := 8) (v := ?_) (a' := ?_) (l' := #[true, true, true, true, false, true, true, true, true, false, false, false]) (d := some 28) rfl (by kernel_rfl) (by kernel_rfl) (by kernel_rfl) (by kernel_rfl) (fun _ _ _ h => h) HF.out rfl ?_ rfl rfl ?_ ?_
            rotate_left
            · intro w' hF; have f10 := hF.2.1.cell0; have f11 := hF.2.1.cell1; have f20 := hF.2.2.1.cell0; have f21 := hF.2.2.1.cell1; clear hF; go_simp; try rfl
            rotate_left
            · simp only [Act.put]; exact rfl
            refine Calm.one (i := 4) (l' := #[true, true, true, true, true, true, true, true, true, false, false, false]) (by kernel_rfl) rfl rfl rfl fun K hK => ?_
            go_simp
            refine (C1.out _).mono ?_
            rintro e w1 ⟨rfl, hb⟩
            have HF' := hide (And.intro (HF.out.1.trans ((hb).mono HF.out.1.size)) (And.intro (HF.out.2.1.step (hb)) (And.intro (HF.out.2.2.1.step (hb)) (HF.out.2.2.2.step (hb)))))
            refine hK _ _ (fun _ => HF'.out) ?_
            clear hK K HF hb
            have HF := hide HF'.out
            clear HF'
            refine Calm.one (i := 9) (l' := #[true, true, true, true, true, true, true, true, true, true, false, false]) (by kernel_rfl) rfl rfl rfl fun K hK => ?_
            go_simp
            refine (C2.out _).mono ?_
            rintro e w2 ⟨rfl, hb⟩
            have HF' := hide (And.intro (HF.out.1.trans ((hb).mono HF.out.1.size)) (And.intro (HF.out.2.1.step (hb)) (And.intro (HF.out.2.2.1.step (hb)) (HF.out.2.2.2.step (hb)))))
            refine hK _ _ (fun _ => HF'.out) ?_
            clear hK K HF hb
            have HF := hide HF'.out
            clear HF'
            refine Calm.one (i := 10) (l' := #[true, true, true, true, true, true, true, true, true, true, true, false]) (by kernel_rfl) rfl rfl rfl fun K hK => ?_
            go_simp
            refine (C3.out _).mono ?_
            rintro e w3 ⟨rfl, hb⟩
            have HF' := hide (And.intro (HF.out.1.trans ((hb).mono HF.out.1.size)) (And.intro (HF.out.2.1.step (hb)) (And.intro (HF.out.2.2.1.step (hb)) (HF.out.2.2.2.step (hb)))))
            refine hK _ _ (fun _ => HF'.out) ?_
            clear hK K HF hb
            have HF := hide HF'.out
            clear HF'
            refine Calm.take (i := 11) (v := ?_) (a' := ?_) (l' := #[true, true, true, true, true, true, true, true, true, true, true, true]) (d := some 6) rfl (by kernel_rfl) (by kernel_rfl) (by kernel_rfl) (by kernel_rfl) (fun _ _ _ h => h) HF.out rfl ?_ rfl rfl ?_ ?_
            rotate_left
            · intro w' hF; clear hF; go_simp; try rfl
            rotate_left
            · simp only [Act.put]; exact rfl
            refine Calm.done (by kernel_rfl) ?_
            replace HB := hide HF.out.1
            replace HH := hide HF.out.2.2.2
            clear HF P1 P2 C1 C2 C3
            try simp only [List.setIfInBounds_toArray, List.set_cons_succ, List.set_cons_zero]
            by_cases hn : dd < 0
            · have e1 : -dd = (ds : Int) := by have := DD.out; omega
              have g1 := HH.out.cells ds (by have := DS.out; omega)
              have f1 := HH.out.free ds
              have dl := DS.out
              have wn : IntKind.i64.wrap (-dd) = (ds : Int) := by rw [e1]; rw [IntKind.wrap_i64]; omega
              go_wp2
              go_roundw
              case rel => exact ⟨i + 1, _, by omega, by go_num, MN.out, HH.out.put (by have := DS.out; omega), HB.out.setCell (Nat.le_refl _) _⟩
              case measure => simp [intOf]; omega
            · have e1 : dd = (ds : Int) := by have := DD.out; omega
              subst e1
              have g1 := HH.out.cells ds (by have := DS.out; omega)
              have f1 := HH.out.free ds
              have dl := DS.out
              go_wp2
              go_roundw
              case rel => exact ⟨i + 1, _, by omega, by go_num, MN.out, HH.out.put (by have := DS.out; omega), HB.out.setCell (Nat.le_refl _) _⟩
              case measure => simp [intOf]; omega
        · have e : i = j := by omega
          subst e
          have MT := hide MB.out.turn
          go_wp2
          go_roundw
          case rel => exact ⟨i + 1, S, by omega, by go_num, MT.out, HH.out, HB.out⟩
          case measure => simp [intOf]; omega
    · have e : j = ps.length := by omega
      subst e
      have DL := hide (pick_div RG.out MB.out)
      clear MB
      go_wp2
      go_loopw [7, 8] (fun ov dv wr => ∃ d : Nat, 2 ≤ d ∧ d ≤ 513 ∧ dv = .int .i64 d ∧ OwnI wr (w.heap.size + 1) ov (pick S d) ∧ HasAt wr w.heap.size S ∧ Below w.heap.size w wr) (fun _ dv _ => 513 - (intOf dv).toNat)
      case atStart => exact ⟨2, by omega, by omega, rfl, by rw [pick_two]; exact World.ownsRow_nil _ _ _ _, HH.out, HB.out⟩
      case round =>
        clear HH HB
        obtain ⟨d, hd2, hd5, rfl, ho, hh, hb⟩ := hrel
        have OO := hide ho
        have HH := hide hh
        have HB := hide hb
        clear ho hh hb
        by_cases hlt2 : d ≤ 512
        · have g1 := HH.out.cells d (by omega)
          have PS := hide (pick_succ S d hd2)
          have PL := hide (pick_len S d)
          cases hs : S d with
          | false =>
            rw [hs] at g1 PS
            go_wp2
            go_roundw
            case rel => exact ⟨d + 1, by omega, by omega, by go_num, by rw [PS.out]; simpa using OO.out, HH.out, HB.out⟩
            case measure => simp [intOf]; omega
          | true =>
            rw [hs] at g1 PS
            rw [if_pos rfl] at PS
            have al := below_alloc wr (.cells #[.int .i64 (d : Int)] 3)
            have OA := hide (OO.out.below al)
            have BA := hide (HB.out.trans (al.mono HB.out.size))
            have HA := hide (HH.out.step al)
            have SZ : Hid (w.heap.size + 1 ≤ (wr.alloc (.cells #[.int .i64 (d : Int)] 3)).heap.size) := hide (by have := HH.out.lt; rw [World.size_alloc]; omega)
            clear al
            go_wp2_with (at_builtin; refine wpList_append_own _ rfl _ _ 78 rfl (w.heap.size + 1) 3 i0 (.int .i64 0) 1 8 Try.underlying78 TR.out.1 TR.out.2.1 TR.out.2.2.1 TR.out.2.2.2 rfl (by decide) _ _ _ rfl OA.out ⟨wr.heap.size, 0, none⟩ 1 _ [.int .i64 (d : Int)] rfl rfl (one_cellI _ _ _) (by intro u hu; simp only [List.mem_cons, List.not_mem_nil, or_false] at hu; subst hu; rfl) (by have := PL.out; unfold maxLen; omega) (by have := PL.out; omega) SZ.out ?_; intro v' w5 hown hgrow hnil; have OW : Hid (OwnI w5 (w.heap.size + 1) v' (pick S d ++ [(d : Int)])) := hide (OwnI.snoc hown); have BW := hide (BA.out.grown hgrow BA.out.size (fun r e => Nat.le_trans (Nat.le_succ _) (OA.out.ge e))); have HW := hide (has_grown HA.out hgrow (fun e => by have := OA.out.ge e; omega)); clear hown hgrow hnil)
            go_roundw
            case rel => exact ⟨d + 1, by omega, by omega, by go_num, by rw [PS.out]; exact OW.out, HW.out, BW.out⟩
            case measure => simp [intOf]; omega
        · have e : d = 513 := by omega
          subst e
          go_wp2
          go_ret
          exact ⟨_, _, rfl, DL.out, OO.out.ints, HB.out⟩
end Go.Proofs.Ytapodkjmhenceaa
