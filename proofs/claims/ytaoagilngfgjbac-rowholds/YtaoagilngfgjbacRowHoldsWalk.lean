/- swagelaw04.RowHolds answers true at all rows, and turns nothing that was there. -/
import Derived.Test.YtaoagilngfgjbacWWide
import Derived.Test.YtaoagilngfgjbacWLong
import Derived.Test.YtaoagilngfgjbacWLive
namespace Go.Proofs.Ytaoagilngfgjbac
open Go.RowKit

theorem sg_dec4 (z : Int) : sg (decide (z < 0)) (val (lim z.natAbs)) = z := by
  rw [val_lim]
  by_cases h : z < 0
  · rw [decide_eq_true h, sg_true]; omega
  · rw [decide_eq_false h, sg_false]; omega
theorem cmpZ_swap (x y : Int) : cmpZ y x = -cmpZ x y := by unfold cmpZ; split <;> (try split) <;> (try split) <;> omega
theorem cmpZ_three (x y : Int) : cmpZ x y = -1 ∨ cmpZ x y = 0 ∨ cmpZ x y = 1 := by unfold cmpZ; split <;> (try split) <;> omega
theorem cmpL_swap : ∀ (xs ys : List Int), cmpL ys xs = -cmpL xs ys
  | [], [] => rfl
  | [], _ :: _ => rfl
  | _ :: _, [] => rfl
  | x :: r, y :: q => by
    show (if y = x then cmpL q r else cmpZ y x) = -(if x = y then cmpL r q else cmpZ x y)
    by_cases h : x = y
    · rw [if_pos h, if_pos h.symm, cmpL_swap r q]
    · rw [if_neg h, if_neg (Ne.symm h), cmpZ_swap]
theorem cmpL_three : ∀ (xs ys : List Int), cmpL xs ys = -1 ∨ cmpL xs ys = 0 ∨ cmpL xs ys = 1
  | [], [] => .inr (.inl rfl)
  | [], _ :: _ => .inr (.inl rfl)
  | _ :: _, [] => .inr (.inl rfl)
  | x :: r, y :: q => by
    show (if x = y then cmpL r q else cmpZ x y) = -1 ∨ (if x = y then cmpL r q else cmpZ x y) = 0 ∨ (if x = y then cmpL r q else cmpZ x y) = 1
    by_cases h : x = y
    · rw [if_pos h]; exact cmpL_three r q
    · rw [if_neg h]; exact cmpZ_three x y
theorem rowCmp_swap (xs ys : List Int) : rowCmp ys xs = -rowCmp xs ys := by
  unfold rowCmp
  by_cases h : xs.length = ys.length
  · rw [if_pos h, if_pos h.symm, cmpL_swap]
  · rw [if_neg h, if_neg (Ne.symm h)]
    split <;> split <;> omega
theorem rowCmp_three (xs ys : List Int) : rowCmp xs ys = -1 ∨ rowCmp xs ys = 0 ∨ rowCmp xs ys = 1 := by
  unfold rowCmp
  split
  · exact cmpL_three xs ys
  · split <;> simp
theorem numll2 (w : World) (va vb : Value) (ns ms : List (Bool × List Nat)) (t : TypeId) (h1 : NumL w va ns) (h2 : NumL w vb ms) : NumLL (w.alloc (.cells #[va, vb] t)) (.slice (some ⟨w.heap.size, 0, none⟩) 2 2) [ns, ms] := by
  have hh : (w.alloc (.cells #[va, vb] t)).heap[w.heap.size]? = some (.cells #[va, vb] t (0, 0)) := heap_alloc_new _ _
  have g1 := h1.below (below_alloc w (.cells #[va, vb] t))
  have g2 := h2.below (below_alloc w (.cells #[va, vb] t))
  generalize w.alloc (.cells #[va, vb] t) = W at *
  refine ⟨_, 2, rfl, Nat.le_refl _, by unfold maxLen; decide, fun _ => ⟨_, 0, rfl, fun i hi => ?_⟩⟩
  match i, hi with
  | 0, _ => exact ⟨va, by unfold World.cell?; simp only [hh]; rfl, g1⟩
  | 1, _ => exact ⟨vb, by unfold World.cell?; simp only [hh]; rfl, g2⟩
theorem few_len {ns : List (Bool × List Nat)} (h : Few ns) (i : Nat) : (ns.getD i (false, [])).2.length ≤ 1000000 := by
  rcases Nat.lt_or_ge i ns.length with hi | hi
  · exact Nat.le_trans (h.2 i hi) (by decide)
  · rw [List.getD_eq_getElem?_getD, List.getElem?_eq_none hi]; simp

set_option maxRecDepth 100000 in
set_option maxHeartbeats 2000000 in
theorem rsame4_yes (v1 v2 : Value) (x : Int) (w : World) (h1 : RInt w v1 x) (h2 : RInt w v2 x) :
    Calls Try.prog 46 #[v1, v2] w fun e w' => e = .returned (.bool true) ∧ Below w.heap.size w w' := by
  obtain ⟨s1, m1, n1, c1, rfl, i1⟩ : ∃ s9 m9 l9 c9, v1 = .agg #[.bool s9, .slice m9 l9 c9] ∧ RInt w (.agg #[.bool s9, .slice m9 l9 c9]) x := by obtain ⟨b, j, a, c, rfl, hx⟩ := h1; exact ⟨b, a, _, c, rfl, b, j, a, c, rfl, hx⟩
  obtain ⟨s2, m2, n2, c2, rfl, i2⟩ : ∃ s9 m9 l9 c9, v2 = .agg #[.bool s9, .slice m9 l9 c9] ∧ RInt w (.agg #[.bool s9, .slice m9 l9 c9]) x := by obtain ⟨b, j, a, c, rfl, hx⟩ := h2; exact ⟨b, a, _, c, rfl, b, j, a, c, rfl, hx⟩
  have HE := hide (nboxes2 42 w (.bool s1) (.slice m1 n1 c1) (.bool s2) (.slice m2 n2 c2))
  have I1 := hide (i1.below HE.out.2.2)
  have I2 := hide (i2.below HE.out.2.2)
  have HB := hide HE.out.2.2
  clear h1 h2 i1 i2 HE
  go_enter Try.func46, Try.ntmps46
  go_wp2_with fail
  refine (rcmp_any _ _ x x _ I1.out I2.out).mono ?_
  rintro e w1 ⟨rfl, hb⟩
  rw [cmpZ_self]
  replace HB := hide (HB.out.trans (hb.mono HB.out.size))
  clear hb I1 I2
  go_wp2
  go_ret
  exact ⟨rfl, HB.out⟩

set_option maxRecDepth 100000 in
set_option maxHeartbeats 4000000 in
theorem one_yes (v u : Value) (z : Int) (w : World) (h : IntAt w v z) (k : RInt w u z) (hl : (lim z.natAbs).length ≤ 1000000000) :
    Calls Try.prog 15 #[v, u] w fun e w' => e = .returned (.bool true) ∧ Below w.heap.size w w' := by
  have HL := hide hl
  obtain ⟨sx, mx, lx, cx, rfl, i1⟩ := h.cells
  obtain ⟨sy, my, ly, cy, rfl, i2⟩ : ∃ s9 m9 l9 c9, u = .agg #[.bool s9, .slice m9 l9 c9] ∧ RInt w (.agg #[.bool s9, .slice m9 l9 c9]) z := by obtain ⟨b, j, a, c, rfl, hx⟩ := k; exact ⟨b, a, _, c, rfl, b, j, a, c, rfl, hx⟩
  have PX := hide ((Box.new w (.bool sx) (.slice mx lx cx)).step (below_alloc _ (.cells #[.bool sy, .slice my ly cy] 42)))
  have PY := hide (Box2.new (w.alloc (.cells #[.bool sx, .slice mx lx cx] 39)) 42 (.bool sy) (.slice my ly cy))
  simp only [World.size_alloc] at PY
  have HB := hide ((below_alloc w (.cells #[.bool sx, .slice mx lx cx] 39)).trans ((below_alloc _ (.cells #[.bool sy, .slice my ly cy] 42)).mono (by simp only [World.size_alloc]; omega)))
  have IX := hide (i1.below HB.out)
  have IY := hide (i2.below HB.out)
  clear h k i1 i2 hl
  go_enter Try.func15, Try.ntmps15
  go_wp2_with fail
  generalize (w.alloc (.cells #[.bool sx, .slice mx lx cx] 39)).alloc (.cells #[.bool sy, .slice my ly cy] 42) = w0 at *
  refine (ilimbs_any _ z _ IX.out HL.out).mono ?_
  rintro e w1 ⟨l, rfl, nl, hb⟩
  replace HB := hide (HB.out.trans (hb.mono HB.out.size))
  replace PX := hide (PX.out.step hb)
  replace PY := hide (PY.out.step hb)
  replace IX := hide (IX.out.below hb)
  replace IY := hide (IY.out.below hb)
  have NL := hide nl
  clear hb nl
  go_wp2_with fail
  refine wp_calm (fun w' => Below w.heap.size w w' ∧ Box w' w.heap.size (.bool sx) (.slice mx lx cx) ∧ Box2 w' (w.heap.size + 1) 42 (.bool sy) (.slice my ly cy) ∧ IntAt w' (.agg #[.bool sx, .slice mx lx cx]) z ∧ RInt w' (.agg #[.bool sy, .slice my ly cy]) z ∧ Nums w' l (lim z.natAbs)) (fun _ => true) 13 #[false, false, false, false, false, false, false, false, false, false, false, false, false] (by kernel_rfl) rfl rfl ?_
  have HF := hide (And.intro (HB.out.drew) (And.intro (PX.out.drew) (And.intro (PY.out.drew) (And.intro (IX.out.drew) (And.intro (IY.out.drew) (NL.out.drew))))))
  generalize w1.drew = w1d at *
  refine Calm.take (i := 0) (v := ?_) (a' := ?_) (l' := #[true, false, false, false, false, false, false, false, false, false, false, false, false]) (d := some 12) rfl (by kernel_rfl) (by kernel_rfl) (by kernel_rfl) (by kernel_rfl) (fun _ _ _ h => h) HF.out rfl ?_ rfl rfl ?_ ?_
  rotate_left
  · intro w' hF; clear hF; go_simp; try rfl
  rotate_left
  · simp only [Act.put]; exact rfl
  refine Calm.take (i := 1) (v := ?_) (a' := ?_) (l' := #[true, true, false, false, false, false, false, false, false, false, false, false, false]) (d := some 13) rfl (by kernel_rfl) (by kernel_rfl) (by kernel_rfl) (by kernel_rfl) (fun _ _ _ h => h) HF.out rfl ?_ rfl rfl ?_ ?_
  rotate_left
  · intro w' hF; clear hF; go_simp; try rfl
  rotate_left
  · simp only [Act.put]; exact rfl
  refine Calm.take (i := 3) (v := ?_) (a' := ?_) (l' := #[true, true, false, true, false, false, false, false, false, false, false, false, false]) (d := some 15) rfl (by kernel_rfl) (by kernel_rfl) (by kernel_rfl) (by kernel_rfl) (fun _ _ _ h => h) HF.out rfl ?_ rfl rfl ?_ ?_
  rotate_left
  · intro w' hF; have f10 := hF.2.1.cell0; have f11 := hF.2.1.cell1; have f20 := hF.2.2.1.cell0; have f21 := hF.2.2.1.cell1; clear hF; go_simp; try rfl
  rotate_left
  · simp only [Act.put]; exact rfl
  refine Calm.one (i := 2) (l' := #[true, true, true, true, false, false, false, false, false, false, false, false, false]) (by kernel_rfl) rfl rfl rfl fun K hK => ?_
  go_simp
  refine (rmake_any _ _ _ _ HF.out.2.2.2.2.2 HL.out).mono ?_
  rintro e u1 ⟨v, rfl, n, hb⟩
  rw [sg_dec4] at n
  have HF' := hide (And.intro (HF.out.1.trans ((hb).mono HF.out.1.size)) (And.intro (HF.out.2.1.step (hb)) (And.intro (HF.out.2.2.1.step (hb)) (And.intro (HF.out.2.2.2.1.below (hb)) (And.intro (HF.out.2.2.2.2.1.below (hb)) (HF.out.2.2.2.2.2.below (hb)))))))
  have TM := hide (n)
  refine hK _ _ (fun _ => HF'.out) ?_
  clear hK K HF hb n
  have HF := hide HF'.out
  clear HF'
  refine Calm.one (i := 4) (l' := #[true, true, true, true, true, false, false, false, false, false, false, false, false]) (by kernel_rfl) rfl rfl rfl fun K hK => ?_
  go_simp
  refine (rsame4_yes _ _ z _ TM.out HF.out.2.2.2.2.1).mono ?_
  rintro e u2 ⟨rfl, hb⟩
  clear TM
  have HF' := hide (And.intro (HF.out.1.trans ((hb).mono HF.out.1.size)) (And.intro (HF.out.2.1.step (hb)) (And.intro (HF.out.2.2.1.step (hb)) (And.intro (HF.out.2.2.2.1.below (hb)) (And.intro (HF.out.2.2.2.2.1.below (hb)) (HF.out.2.2.2.2.2.below (hb)))))))
  refine hK _ _ (fun _ => HF'.out) ?_
  clear hK K HF hb
  have HF := hide HF'.out
  clear HF'
  refine Calm.take (i := 5) (v := ?_) (a' := ?_) (l' := #[true, true, true, true, true, true, false, false, false, false, false, false, false]) (d := some 17) rfl (by kernel_rfl) (by kernel_rfl) (by kernel_rfl) (by kernel_rfl) (fun _ _ _ h => h) HF.out rfl ?_ rfl rfl ?_ ?_
  rotate_left
  · intro w' hF; clear hF; go_simp; try rfl
  rotate_left
  · simp only [Act.put]; exact rfl
  refine Calm.take (i := 6) (v := ?_) (a' := ?_) (l' := #[true, true, true, true, true, true, true, false, false, false, false, false, false]) (d := some 18) rfl (by kernel_rfl) (by kernel_rfl) (by kernel_rfl) (by kernel_rfl) (fun _ _ _ h => h) HF.out (by kernel_rfl) ?_ rfl rfl ?_ ?_
  rotate_left
  · intro w' hF; have f10 := hF.2.1.cell0; have f11 := hF.2.1.cell1; have f20 := hF.2.2.1.cell0; have f21 := hF.2.2.1.cell1; clear hF; go_simp; try rfl
  rotate_left
  · simp only [Act.put]; exact rfl
  refine Calm.take (i := 8) (v := ?_) (a' := ?_) (l' := #[true, true, true, true, true, true, true, false, true, false, false, false, false]) (d := some 20) rfl (by kernel_rfl) (by kernel_rfl) (by kernel_rfl) (by kernel_rfl) (fun _ _ _ h => h) HF.out (by kernel_rfl) ?_ rfl rfl ?_ ?_
  rotate_left
  · intro w' hF; have f10 := hF.2.1.cell0; have f11 := hF.2.1.cell1; have f20 := hF.2.2.1.cell0; have f21 := hF.2.2.1.cell1; clear hF; go_simp; try rfl
  rotate_left
  · simp only [Act.put]; exact rfl
  refine Calm.one (i := 7) (l' := #[true, true, true, true, true, true, true, true, true, false, false, false, false]) (by kernel_rfl) rfl (by kernel_rfl) rfl fun K hK => ?_
  go_simp
  refine (isign_any _ z _ HF.out.2.2.2.1).mono ?_
  rintro e u3 ⟨rfl, hb⟩
  have HF' := hide (And.intro (HF.out.1.trans ((hb).mono HF.out.1.size)) (And.intro (HF.out.2.1.step (hb)) (And.intro (HF.out.2.2.1.step (hb)) (And.intro (HF.out.2.2.2.1.below (hb)) (And.intro (HF.out.2.2.2.2.1.below (hb)) (HF.out.2.2.2.2.2.below (hb)))))))
  refine hK _ _ (fun _ => HF'.out) ?_
  clear hK K HF hb
  have HF := hide HF'.out
  clear HF'
  refine Calm.one (i := 9) (l' := #[true, true, true, true, true, true, true, true, true, true, false, false, false]) (by kernel_rfl) rfl (by kernel_rfl) rfl fun K hK => ?_
  go_simp
  refine (rsign_any _ z _ HF.out.2.2.2.2.1).mono ?_
  rintro e u4 ⟨rfl, hb⟩
  have HF' := hide (And.intro (HF.out.1.trans ((hb).mono HF.out.1.size)) (And.intro (HF.out.2.1.step (hb)) (And.intro (HF.out.2.2.1.step (hb)) (And.intro (HF.out.2.2.2.1.below (hb)) (And.intro (HF.out.2.2.2.2.1.below (hb)) (HF.out.2.2.2.2.2.below (hb)))))))
  refine hK _ _ (fun _ => HF'.out) ?_
  clear hK K HF hb
  have HF := hide HF'.out
  clear HF'
  refine Calm.take (i := 10) (v := ?_) (a' := ?_) (l' := #[true, true, true, true, true, true, true, true, true, true, true, false, false]) (d := some 22) rfl (by kernel_rfl) (by kernel_rfl) (by kernel_rfl) (by kernel_rfl) (fun _ _ _ h => h) HF.out (by kernel_rfl) ?_ rfl rfl ?_ ?_
  rotate_left
  · intro w' hF; clear hF; go_simp; try rfl
  rotate_left
  · simp only [Act.put]; exact rfl
  refine Calm.take (i := 11) (v := ?_) (a' := ?_) (l' := #[true, true, true, true, true, true, true, true, true, true, true, true, false]) (d := some 23) rfl (by kernel_rfl) (by kernel_rfl) (by kernel_rfl) (by kernel_rfl) (fun _ _ _ h => h) HF.out rfl ?_ rfl rfl ?_ ?_
  rotate_left
  · intro w' hF; clear hF; go_simp; try rfl
  rotate_left
  · simp only [Act.put]; exact rfl
  refine Calm.take (i := 12) (v := ?_) (a' := ?_) (l' := #[true, true, true, true, true, true, true, true, true, true, true, true, true]) (d := some 4) rfl (by kernel_rfl) (by kernel_rfl) (by kernel_rfl) (by kernel_rfl) (fun _ _ _ h => h) HF.out rfl ?_ rfl rfl ?_ ?_
  rotate_left
  · intro w' hF; clear hF; go_simp; try rfl
  rotate_left
  · simp only [Act.put]; exact rfl
  refine Calm.done (by kernel_rfl) ?_
  replace HB := hide HF.out.1
  clear HF
  go_wp2
  go_ret
  exact ⟨rfl, HB.out⟩
theorem wideTo_lt {zs : List Int} {B : Nat} (hB : 0 < B) (h : ∀ i, (zs.getD i 0).natAbs < B) : ∀ k, wideTo zs k < B
  | 0 => hB
  | k + 1 => by show max (wideTo zs k) (zs.getD k 0).natAbs < B; have := wideTo_lt hB h k; have := h k; omega
theorem numsZ_getD (ns : List (Bool × List Nat)) (i : Nat) : (numsZ ns).getD i 0 = sg (ns.getD i (false, [])).1 (val (ns.getD i (false, [])).2) := by
  unfold numsZ
  rw [List.getD_eq_getElem?_getD, List.getElem?_map, List.getD_eq_getElem?_getD]
  cases ns[i]? with
  | none => rfl
  | some p => rfl
theorem wide_len {w : World} {a : Option Addr} {n cap : Nat} {ns : List (Bool × List Nat)} (hA : NumL w (.slice a n cap) ns) (h : Few ns) : (lim ((wideTo (numsZ ns) (numsZ ns).length : Nat) : Int).natAbs).length ≤ 1000000000 := by
  obtain ⟨K, hK⟩ : ∃ K : Nat, K = 300 := ⟨300, rfl⟩
  have hb : ∀ i, ((numsZ ns).getD i 0).natAbs < BB ^ K := by
    intro i
    rw [numsZ_getD, sg_abs]
    have hok : Ok (ns.getD i (false, [])).2 ∧ (ns.getD i (false, [])).2.length ≤ K := by
      rw [hK]
      rcases Nat.lt_or_ge i ns.length with hi | hi
      · refine ⟨?_, h.2 i hi⟩
        obtain ⟨_, _, _, s, m, l, c, xs, _, _, k3, k4⟩ := hA.at hi
        rw [k4]; exact k3.ok
      · rw [List.getD_eq_getElem?_getD, List.getElem?_eq_none hi]
        exact ⟨(by intro x hx; cases hx), Nat.zero_le _⟩
    exact Nat.lt_of_lt_of_le (val_lt hok.1) (Nat.pow_le_pow_right BB_pos hok.2)
  rw [Int.natAbs_natCast]
  exact Nat.le_trans (lim_length_le (wideTo_lt (Nat.pow_pos BB_pos) hb _)) (by omega)

set_option maxRecDepth 100000 in
set_option maxHeartbeats 8000000 in
theorem rholds_walk (va vb : Value) (ns ms : List (Bool × List Nat)) (w : World) (h1 : NumL w va ns) (h2 : NumL w vb ms) :
    Calls Try.prog 3 #[va, vb] w fun e w' => e = .returned (.bool true) ∧ Below w.heap.size w w' := by
  have HA := hide h1
  have HC := hide h2
  obtain ⟨a, cap, rfl, hcap, hm, _, _⟩ := h1
  obtain ⟨a', cap', rfl, hcap', hm', _, _⟩ := h2
  go_enter Try.func3, Try.ntmps3
  go_wp2_with fail
  refine (rlive_any _).mono ?_
  rintro e w1 ⟨rfl, hb⟩
  have HB := hide hb
  replace HA := hide (HA.out.below hb)
  replace HC := hide (HC.out.below hb)
  clear hb
  go_wp2_with fail
  refine (rlong_any _ [ns, ms] _ (numll2 w1 _ _ ns ms _ HA.out HC.out)).mono ?_
  rintro e w2 ⟨⟨r, rfl, hr⟩, rfl⟩
  have hal := below_alloc w1 (.cells #[.slice a ns.length cap, .slice a' ms.length cap'] 22)
  replace HB := hide (HB.out.trans ((hal).mono HB.out.size))
  replace HA := hide (HA.out.below (hal))
  replace HC := hide (HC.out.below (hal))
  clear hal
  cases r with
  | true =>
    go_wp2
    go_ret
    exact ⟨rfl, HB.out⟩
  | false =>
  have FA := hide (hr rfl 0 (by simp))
  have FC := hide (hr rfl 1 (by simp))
  clear hr
  replace FA : Hid (Few ns) := FA
  replace FC : Hid (Few ms) := FC
  generalize w1.alloc (.cells #[.slice a ns.length cap, .slice a' ms.length cap'] 22) = w3 at *
  go_wp2_with fail
  refine (rowof_any _ ns _ HA.out (Nat.le_trans FA.out.1 (by decide)) (few_len FA.out)).mono ?_
  rintro e w4 ⟨vA, uA, rfl, hi, hr, hb⟩
  replace HB := hide (HB.out.trans ((hb).mono HB.out.size))
  replace HA := hide (HA.out.below (hb))
  replace HC := hide (HC.out.below (hb))
  have XA := hide hi
  have YA := hide hr
  clear hi hr hb
  go_wp2_with fail
  refine (rowof_any _ ms _ HC.out (Nat.le_trans FC.out.1 (by decide)) (few_len FC.out)).mono ?_
  rintro e w5 ⟨vC, uC, rfl, hi, hr, hb⟩
  replace HB := hide (HB.out.trans ((hb).mono HB.out.size))
  replace HA := hide (HA.out.below (hb))
  replace HC := hide (HC.out.below (hb))
  replace XA := hide (XA.out.below (hb))
  replace YA := hide (YA.out.below (hb))
  have XC := hide hi
  have YC := hide hr
  clear hi hr hb
  have SZ : Hid ((lim ((wideTo (numsZ ns) (numsZ ns).length : Nat) : Int).natAbs).length ≤ 1000000000) := hide (wide_len HA.out FA.out)
  clear HA HC
  generalize numsZ ns = zs at *
  generalize numsZ ms = ys at *
  go_wp2_with fail
  refine (r4cmp_any _ _ zs ys _ YA.out YC.out).mono ?_
  rintro e w6 ⟨rfl, hb⟩
  replace HB := hide (HB.out.trans ((hb).mono HB.out.size))
  replace XA := hide (XA.out.below (hb))
  replace YA := hide (YA.out.below (hb))
  replace XC := hide (XC.out.below (hb))
  replace YC := hide (YC.out.below (hb))
  clear hb
  have HSW := hide (rowCmp_swap zs ys)
  obtain ⟨cc, hcc⟩ : ∃ cc, rowCmp zs ys = cc := ⟨_, rfl⟩
  have HCC := hide hcc
  have H3 := hide (rowCmp_three zs ys)
  rw [hcc] at H3 HSW
  rw [hcc]
  clear hcc
  go_wp2_with fail
  refine (rsameL_any _ _ zs ys _ XA.out XC.out).mono ?_
  rintro e w7 ⟨rfl, hb⟩
  replace HB := hide (HB.out.trans ((hb).mono HB.out.size))
  replace XA := hide (XA.out.below (hb))
  replace YA := hide (YA.out.below (hb))
  replace XC := hide (XC.out.below (hb))
  replace YC := hide (YC.out.below (hb))
  clear hb
  rw [HCC.out]
  go_wp2_with fail
  refine (r4same_any _ _ zs ys _ YA.out YC.out).mono ?_
  rintro e w8 ⟨rfl, hb⟩
  replace HB := hide (HB.out.trans ((hb).mono HB.out.size))
  replace XA := hide (XA.out.below (hb))
  replace YA := hide (YA.out.below (hb))
  replace XC := hide (XC.out.below (hb))
  replace YC := hide (YC.out.below (hb))
  clear hb
  rw [HCC.out]
  go_wp2_with fail
  refine (iszero_any _ zs _ XA.out).mono ?_
  rintro e w9 ⟨rfl, hb⟩
  replace HB := hide (HB.out.trans ((hb).mono HB.out.size))
  replace XA := hide (XA.out.below (hb))
  replace YA := hide (YA.out.below (hb))
  replace XC := hide (XC.out.below (hb))
  replace YC := hide (YC.out.below (hb))
  clear hb
  go_wp2_with fail
  refine (r4zero_any _ zs _ YA.out).mono ?_
  rintro e w10 ⟨rfl, hb⟩
  replace HB := hide (HB.out.trans ((hb).mono HB.out.size))
  replace XA := hide (XA.out.below (hb))
  replace YA := hide (YA.out.below (hb))
  replace XC := hide (XC.out.below (hb))
  replace YC := hide (YC.out.below (hb))
  clear hb
  go_wp2_with fail
  refine (rcmpL_any _ _ zs ys _ XA.out XC.out).mono ?_
  rintro e w11 ⟨rfl, hb⟩
  replace HB := hide (HB.out.trans ((hb).mono HB.out.size))
  replace XA := hide (XA.out.below (hb))
  replace YA := hide (YA.out.below (hb))
  replace XC := hide (XC.out.below (hb))
  replace YC := hide (YC.out.below (hb))
  clear hb
  rw [HCC.out]
  go_wp2_with fail
  refine (rcmpL_any _ _ ys zs _ XC.out XA.out).mono ?_
  rintro e w12 ⟨rfl, hb⟩
  replace HB := hide (HB.out.trans ((hb).mono HB.out.size))
  replace XA := hide (XA.out.below (hb))
  replace YA := hide (YA.out.below (hb))
  replace XC := hide (XC.out.below (hb))
  replace YC := hide (YC.out.below (hb))
  clear hb
  rw [HSW.out]
  rcases H3.out with rfl | rfl | rfl
  all_goals
    go_wp2_with fail
    refine (widest_any _ zs _ XA.out).mono ?_
    rintro e w13 ⟨v1, rfl, n1, hb⟩
    replace HB := hide (HB.out.trans (hb.mono HB.out.size))
    replace YA := hide (YA.out.below hb)
    have I1 := hide n1
    clear hb n1
    go_wp2_with fail
    refine (r4widest_any _ zs _ YA.out).mono ?_
    rintro e w14 ⟨v2, rfl, n2, hb⟩
    replace HB := hide (HB.out.trans (hb.mono HB.out.size))
    replace I1 := hide (I1.out.below hb)
    have I2 := hide n2
    clear hb n2
    go_wp2_with fail
    refine (one_yes _ _ _ _ I1.out I2.out SZ.out).mono ?_
    rintro e w15 ⟨rfl, hb⟩
    replace HB := hide (HB.out.trans (hb.mono HB.out.size))
    clear hb I1 I2
    go_wp2_with fail
    refine (rlive_any _).mono ?_
    rintro e w16 ⟨rfl, hb⟩
    replace HB := hide (HB.out.trans (hb.mono HB.out.size))
    clear hb
    go_wp2
    go_ret
    exact ⟨rfl, HB.out⟩
end Go.Proofs.Ytaoagilngfgjbac
