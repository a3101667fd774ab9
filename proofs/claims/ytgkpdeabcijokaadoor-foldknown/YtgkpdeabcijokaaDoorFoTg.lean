/- fold.isConstant, isShift, quotient, difference, behindNeg .. behindShr, together: what two instructions come to. -/
import Derived.Test.YtgkpdeabcijokaaDoorFoPl
import Derived.BigQuiet
import Derived.Deep.QuietTactic
namespace Go.Proofs.YtgkpdeabcijokaaDoor
open Go.RowKit

theorem drewN_below {n : Nat} {w w' : World} (h : Below n w w') (k : Nat) : Below n w (w'.drewN k) := by
  induction k with
  | zero => exact h
  | succ k ih => first | exact ih.drew | (rw [show w'.drewN (k + 1) = (w'.drewN k).drew from rfl]; exact ih.drew)
theorem ret_tmp3 {fn : Func} {R : Ending → World → Prop} {a : Act} {w : World} {p q r : Tmp} (h : fn.results = #[.tmp p, .tmp q, .tmp r]) (hd : a.defers = [])
    (hR : R (.returned (.tuple #[a.tmps.getD p undef, a.tmps.getD q undef, a.tmps.getD r undef])) w) : bodyPost Tryd.prog fn R .ret a w := by
  refine bodyPost_ret ?_ hd hR
  simp [results, h]
/-- an operation and its constant, and whether there is one -/
def TogE (e : Ending) (t : Option (Int × Int)) : Prop := ∃ o c ok, e = .returned (.tuple #[.int .i64 o, .int .i64 c, .bool ok]) ∧ t = ifT ok o c
set_option maxRecDepth 100000 in
theorem isConst_any (c : Int) (w : World) : Calls Tryd.prog 40 #[.int .i64 c] w fun e w' => e = .returned (.bool (conB c)) ∧ w' = w := by
  unfold conB
  by_cases h1 : -512 ≤ c
  · by_cases h2 : c ≤ 512
    · go_enter Tryd.func40, Tryd.ntmps40
      go_wp2
      go_ret
      exact ⟨by simp [h1, h2], rfl⟩
    · go_enter Tryd.func40, Tryd.ntmps40
      go_wp2
      go_ret
      exact ⟨by simp; omega, rfl⟩
  · go_enter Tryd.func40, Tryd.ntmps40
    go_wp2
    go_ret
    exact ⟨by simp; omega, rfl⟩
set_option maxRecDepth 100000 in
theorem isShift_any (c : Int) (w : World) : Calls Tryd.prog 42 #[.int .i64 c] w fun e w' => e = .returned (.bool (shB c)) ∧ w' = w := by
  unfold shB
  by_cases h1 : c ≤ 64
  · go_enter Tryd.func42, Tryd.ntmps42
    go_wp2
    go_ret
    exact ⟨by simp [h1], rfl⟩
  · go_enter Tryd.func42, Tryd.ntmps42
    go_wp2
    go_ret
    exact ⟨by simp [h1], rfl⟩
set_option maxRecDepth 100000 in
set_option maxHeartbeats 4000000 in
theorem quotient_any (c d : Int) (w : World) (h1 : -512 ≤ c) (h2 : c ≤ 512) (h3 : c ≠ 0) (h4 : -512 ≤ d) (h5 : d ≤ 512) (h6 : d ≠ 0) :
    Calls Tryd.prog 41 #[.int .i64 c, .int .i64 d] w fun e w' => TogE e (quoT c d) ∧ Below w.heap.size w w' := by
  unfold quoT
  have n1 := Int.natAbs_tdiv_le_natAbs c d
  have n2 := Int.natAbs_tdiv_le_natAbs d c
  have hq : IntKind.i64.wrap (c.tdiv d) = c.tdiv d := by rw [IntKind.wrap_i64]; omega
  have hq2 : IntKind.i64.wrap (d.tdiv c) = d.tdiv c := by rw [IntKind.wrap_i64]; omega
  have z1 : (c == 0) = false := by simpa using h3
  have z2 : (d == 0) = false := by simpa using h6
  clear n1 n2
  by_cases k1 : c.tmod d = 0
  · rw [if_pos k1]
    have k1' : (c.tmod d == 0) = true := by simpa using k1
    go_enter Tryd.func41, Tryd.ntmps41
    go_wp2
    try go_quiet (fail)
    try go_wp2
    (try simp only [Exit.inBlock, Exit.then]); refine ret_tmp3 rfl rfl ?_
    exact ⟨⟨5, c.tdiv d, true, by simp, rfl⟩, drewN_below (Below.refl _ _) _⟩
  · rw [if_neg k1]
    have k1' : (c.tmod d == 0) = false := by simpa using k1
    by_cases k2 : d.tmod c = 0
    · rw [if_pos k2]
      have k2' : (d.tmod c == 0) = true := by simpa using k2
      go_enter Tryd.func41, Tryd.ntmps41
      go_wp2
      try go_quiet (fail)
      try go_wp2
      (try simp only [Exit.inBlock, Exit.then]); refine ret_tmp3 rfl rfl ?_
      exact ⟨⟨6, d.tdiv c, true, by simp, rfl⟩, drewN_below (Below.refl _ _) _⟩
    · rw [if_neg k2]
      have k2' : (d.tmod c == 0) = false := by simpa using k2
      go_enter Tryd.func41, Tryd.ntmps41
      go_wp2
      (try simp only [Exit.inBlock, Exit.then]); refine ret_tmp3 rfl rfl ?_
      exact ⟨⟨0, 0, false, rfl, rfl⟩, Below.refl _ _⟩
set_option maxRecDepth 100000 in
set_option maxHeartbeats 4000000 in
theorem difference_any (c d : Int) (w : World) (h1 : 1 ≤ c) (h2 : c ≤ 64) (h4 : 1 ≤ d) (h5 : d ≤ 64) :
    Calls Tryd.prog 43 #[.int .i64 c, .int .i64 d] w fun e w' => TogE e (difT c d) ∧ Below w.heap.size w w' := by
  unfold difT
  by_cases k1 : d < c
  · rw [if_pos k1]
    go_enter Tryd.func43, Tryd.ntmps43
    go_wp2
    (try simp only [Exit.inBlock, Exit.then]); refine ret_tmp3 rfl rfl ?_
    exact ⟨⟨7, c - d, true, by simp, rfl⟩, Below.refl _ _⟩
  · rw [if_neg k1]
    by_cases k2 : c < d
    · rw [if_pos k2]
      go_enter Tryd.func43, Tryd.ntmps43
      go_wp2
      (try simp only [Exit.inBlock, Exit.then]); refine ret_tmp3 rfl rfl ?_
      exact ⟨⟨8, d - c, true, by simp, rfl⟩, Below.refl _ _⟩
    · rw [if_neg k2]
      go_enter Tryd.func43, Tryd.ntmps43
      go_wp2
      (try simp only [Exit.inBlock, Exit.then]); refine ret_tmp3 rfl rfl ?_
      exact ⟨⟨1, 0, true, rfl, rfl⟩, Below.refl _ _⟩
set_option maxRecDepth 100000 in
set_option maxHeartbeats 4000000 in
theorem bneg_any (i : Ins) (w : World) (h0 : -512 ≤ i.c) (h1 : i.c ≤ 512) :
    Calls Tryd.prog 29 #[.agg #[.int .i64 i.op, .int .i64 i.to, .int .i64 i.a, .int .i64 i.b, .int .i64 i.c]] w fun e w' => TogE e (tog 2 0 i.op i.c) ∧ Below w.heap.size w w' := by
  obtain ⟨op, to, a, b, c⟩ := i
  dsimp only at h0 h1 ⊢
  unfold tog
  rw [if_neg (by decide), if_pos rfl]
  by_cases k1 : op = 1
  · subst k1
    rw [if_pos rfl]
    go_enter Tryd.func29, Tryd.ntmps29
    go_upto_region 1 with fail
    have b1 := below_alloc w (.cells #[.int .i64 1, .int .i64 to, .int .i64 a, .int .i64 b, .int .i64 c] 24)
    have IX0 := (Box5.new w 24 ⟨1, to, a, b, c⟩)
    replace IX0 : Hid (Box5 (w.alloc (.cells #[.int .i64 1, .int .i64 to, .int .i64 a, .int .i64 b, .int .i64 c] 24)) (w.heap.size) 24 ⟨1, to, a, b, c⟩) := hide IX0
    have HB := hide b1
    clear b1
    generalize w.alloc (.cells #[.int .i64 1, .int .i64 to, .int .i64 a, .int .i64 b, .int .i64 c] 24) = w1 at *
    obtain ⟨B0, hB0⟩ : ∃ B, B = w.heap.size := ⟨_, rfl⟩
    have ZB0 := hide hB0
    rw [← hB0] at IX0 ⊢
    clear hB0
    have k0 := IX0.out.cells.cell0
    have k1 := IX0.out.cells.cell1
    have k2 := IX0.out.cells.cell2
    have k3 := IX0.out.cells.cell3
    have k4 := IX0.out.cells.cell4
    simp only [Nat.zero_add] at k1 k2 k3 k4
    go_wp2
    (try simp only [Exit.inBlock, Exit.then]); refine ret_tmp3 rfl rfl ?_
    exact ⟨⟨2, 0, true, by simp, rfl⟩, HB.out⟩
  rw [if_neg k1]
  by_cases k2 : op = 2
  · subst k2
    rw [if_pos rfl]
    go_enter Tryd.func29, Tryd.ntmps29
    go_upto_region 1 with fail
    have b1 := below_alloc w (.cells #[.int .i64 2, .int .i64 to, .int .i64 a, .int .i64 b, .int .i64 c] 24)
    have IX0 := (Box5.new w 24 ⟨2, to, a, b, c⟩)
    replace IX0 : Hid (Box5 (w.alloc (.cells #[.int .i64 2, .int .i64 to, .int .i64 a, .int .i64 b, .int .i64 c] 24)) (w.heap.size) 24 ⟨2, to, a, b, c⟩) := hide IX0
    have HB := hide b1
    clear b1
    generalize w.alloc (.cells #[.int .i64 2, .int .i64 to, .int .i64 a, .int .i64 b, .int .i64 c] 24) = w1 at *
    obtain ⟨B0, hB0⟩ : ∃ B, B = w.heap.size := ⟨_, rfl⟩
    have ZB0 := hide hB0
    rw [← hB0] at IX0 ⊢
    clear hB0
    have k0 := IX0.out.cells.cell0
    have k1 := IX0.out.cells.cell1
    have k2 := IX0.out.cells.cell2
    have k3 := IX0.out.cells.cell3
    have k4 := IX0.out.cells.cell4
    simp only [Nat.zero_add] at k1 k2 k3 k4
    go_wp2
    (try simp only [Exit.inBlock, Exit.then]); refine ret_tmp3 rfl rfl ?_
    exact ⟨⟨1, 0, true, by simp, rfl⟩, HB.out⟩
  rw [if_neg k2]
  by_cases k5 : op = 5
  · subst k5
    rw [if_pos (by decide)]
    go_enter Tryd.func29, Tryd.ntmps29
    go_upto_region 1 with fail
    have b1 := below_alloc w (.cells #[.int .i64 5, .int .i64 to, .int .i64 a, .int .i64 b, .int .i64 c] 24)
    have IX0 := (Box5.new w 24 ⟨5, to, a, b, c⟩)
    replace IX0 : Hid (Box5 (w.alloc (.cells #[.int .i64 5, .int .i64 to, .int .i64 a, .int .i64 b, .int .i64 c] 24)) (w.heap.size) 24 ⟨5, to, a, b, c⟩) := hide IX0
    have HB := hide b1
    clear b1
    generalize w.alloc (.cells #[.int .i64 5, .int .i64 to, .int .i64 a, .int .i64 b, .int .i64 c] 24) = w1 at *
    obtain ⟨B0, hB0⟩ : ∃ B, B = w.heap.size := ⟨_, rfl⟩
    have ZB0 := hide hB0
    rw [← hB0] at IX0 ⊢
    clear hB0
    have k0 := IX0.out.cells.cell0
    have k1 := IX0.out.cells.cell1
    have k2 := IX0.out.cells.cell2
    have k3 := IX0.out.cells.cell3
    have k4 := IX0.out.cells.cell4
    simp only [Nat.zero_add] at k1 k2 k3 k4
    go_wp2
    go_quiet (fail)
    go_wp2
    (try simp only [Exit.inBlock, Exit.then]); refine ret_tmp3 rfl rfl ?_
    exact ⟨⟨5, -c, true, by simp, rfl⟩, drewN_below HB.out _⟩
  by_cases k6 : op = 6
  · subst k6
    rw [if_pos (by decide)]
    go_enter Tryd.func29, Tryd.ntmps29
    go_upto_region 1 with fail
    have b1 := below_alloc w (.cells #[.int .i64 6, .int .i64 to, .int .i64 a, .int .i64 b, .int .i64 c] 24)
    have IX0 := (Box5.new w 24 ⟨6, to, a, b, c⟩)
    replace IX0 : Hid (Box5 (w.alloc (.cells #[.int .i64 6, .int .i64 to, .int .i64 a, .int .i64 b, .int .i64 c] 24)) (w.heap.size) 24 ⟨6, to, a, b, c⟩) := hide IX0
    have HB := hide b1
    clear b1
    generalize w.alloc (.cells #[.int .i64 6, .int .i64 to, .int .i64 a, .int .i64 b, .int .i64 c] 24) = w1 at *
    obtain ⟨B0, hB0⟩ : ∃ B, B = w.heap.size := ⟨_, rfl⟩
    have ZB0 := hide hB0
    rw [← hB0] at IX0 ⊢
    clear hB0
    have k0 := IX0.out.cells.cell0
    have k1 := IX0.out.cells.cell1
    have k2 := IX0.out.cells.cell2
    have k3 := IX0.out.cells.cell3
    have k4 := IX0.out.cells.cell4
    simp only [Nat.zero_add] at k1 k2 k3 k4
    go_wp2
    go_quiet (fail)
    go_wp2
    (try simp only [Exit.inBlock, Exit.then]); refine ret_tmp3 rfl rfl ?_
    exact ⟨⟨6, -c, true, by simp, rfl⟩, drewN_below HB.out _⟩
  rw [if_neg (by omega)]
  go_enter Tryd.func29, Tryd.ntmps29
  go_upto_region 1 with fail
  have b1 := below_alloc w (.cells #[.int .i64 op, .int .i64 to, .int .i64 a, .int .i64 b, .int .i64 c] 24)
  have IX0 := (Box5.new w 24 ⟨op, to, a, b, c⟩)
  replace IX0 : Hid (Box5 (w.alloc (.cells #[.int .i64 op, .int .i64 to, .int .i64 a, .int .i64 b, .int .i64 c] 24)) (w.heap.size) 24 ⟨op, to, a, b, c⟩) := hide IX0
  have HB := hide b1
  clear b1
  generalize w.alloc (.cells #[.int .i64 op, .int .i64 to, .int .i64 a, .int .i64 b, .int .i64 c] 24) = w1 at *
  obtain ⟨B0, hB0⟩ : ∃ B, B = w.heap.size := ⟨_, rfl⟩
  have ZB0 := hide hB0
  rw [← hB0] at IX0 ⊢
  clear hB0
  have k0 := IX0.out.cells.cell0
  have k1 := IX0.out.cells.cell1
  have k2 := IX0.out.cells.cell2
  have k3 := IX0.out.cells.cell3
  have k4 := IX0.out.cells.cell4
  simp only [Nat.zero_add] at k1 k2 k3 k4
  go_wp2
  (try simp only [Exit.inBlock, Exit.then]); refine ret_tmp3 rfl rfl ?_
  exact ⟨⟨0, 0, false, by simp, rfl⟩, HB.out⟩
set_option maxRecDepth 100000 in
set_option maxHeartbeats 4000000 in
theorem bmul_any (x : Int) (i : Ins) (w : World) (hx : -512 ≤ x) (hx1 : x ≤ 512) (hx0 : x ≠ 0) (h0 : -512 ≤ i.c) (h1 : i.c ≤ 512) (h2 : i.op = 6 → i.c ≠ 0) :
    Calls Tryd.prog 30 #[.int .i64 x, .agg #[.int .i64 i.op, .int .i64 i.to, .int .i64 i.a, .int .i64 i.b, .int .i64 i.c]] w fun e w' => TogE e (tog 5 x i.op i.c) ∧ Below w.heap.size w w' := by
  obtain ⟨op, to, a, b, c⟩ := i
  dsimp only at h0 h1 h2 ⊢
  have H2 := hide h2
  clear h2
  have m1 : x * c ≤ 262144 ∧ -262144 ≤ x * c := by
    have e1 : (x * c).natAbs = x.natAbs * c.natAbs := Int.natAbs_mul x c
    have e2 : x.natAbs * c.natAbs ≤ 512 * 512 := Nat.mul_le_mul (by omega) (by omega)
    omega
  have hw : IntKind.i64.wrap (x * c) = x * c := by rw [IntKind.wrap_i64]; omega
  unfold tog
  rw [if_neg (by decide), if_neg (by decide), if_pos rfl]
  by_cases k2 : op = 2
  · subst k2
    rw [if_pos rfl]
    go_enter Tryd.func30, Tryd.ntmps30
    go_upto_region 1 with fail
    have b1 := below_alloc w (.cells #[.int .i64 2, .int .i64 to, .int .i64 a, .int .i64 b, .int .i64 c] 24)
    have IX0 := (Box5.new w 24 ⟨2, to, a, b, c⟩)
    replace IX0 : Hid (Box5 (w.alloc (.cells #[.int .i64 2, .int .i64 to, .int .i64 a, .int .i64 b, .int .i64 c] 24)) (w.heap.size) 24 ⟨2, to, a, b, c⟩) := hide IX0
    have HB := hide b1
    clear b1
    generalize w.alloc (.cells #[.int .i64 2, .int .i64 to, .int .i64 a, .int .i64 b, .int .i64 c] 24) = w1 at *
    obtain ⟨B0, hB0⟩ : ∃ B, B = w.heap.size := ⟨_, rfl⟩
    have ZB0 := hide hB0
    rw [← hB0] at IX0 ⊢
    clear hB0
    have k0 := IX0.out.cells.cell0
    have k1 := IX0.out.cells.cell1
    have k2 := IX0.out.cells.cell2
    have k3 := IX0.out.cells.cell3
    have k4 := IX0.out.cells.cell4
    simp only [Nat.zero_add] at k1 k2 k3 k4
    go_wp2
    (try simp only [Exit.inBlock, Exit.then]); refine ret_tmp3 rfl rfl ?_
    exact ⟨⟨5, -x, true, by simp, rfl⟩, HB.out⟩
  rw [if_neg k2]
  by_cases k5 : op = 5
  · subst k5
    rw [if_pos rfl]
    go_enter Tryd.func30, Tryd.ntmps30
    go_upto_region 1 with fail
    have b1 := below_alloc w (.cells #[.int .i64 5, .int .i64 to, .int .i64 a, .int .i64 b, .int .i64 c] 24)
    have IX0 := (Box5.new w 24 ⟨5, to, a, b, c⟩)
    replace IX0 : Hid (Box5 (w.alloc (.cells #[.int .i64 5, .int .i64 to, .int .i64 a, .int .i64 b, .int .i64 c] 24)) (w.heap.size) 24 ⟨5, to, a, b, c⟩) := hide IX0
    have HB := hide b1
    clear b1
    generalize w.alloc (.cells #[.int .i64 5, .int .i64 to, .int .i64 a, .int .i64 b, .int .i64 c] 24) = w1 at *
    obtain ⟨B0, hB0⟩ : ∃ B, B = w.heap.size := ⟨_, rfl⟩
    have ZB0 := hide hB0
    rw [← hB0] at IX0 ⊢
    clear hB0
    have k0 := IX0.out.cells.cell0
    have k1 := IX0.out.cells.cell1
    have k2 := IX0.out.cells.cell2
    have k3 := IX0.out.cells.cell3
    have k4 := IX0.out.cells.cell4
    simp only [Nat.zero_add] at k1 k2 k3 k4
    go_wp2
    go_quiet (refine Calls.quiet_of_same (isConst_any (x * c) _))
    go_wp2
    (try simp only [Exit.inBlock, Exit.then]); refine ret_tmp3 rfl rfl ?_
    exact ⟨⟨5, x * c, conB (x * c), by simp, rfl⟩, drewN_below HB.out _⟩
  rw [if_neg k5]
  by_cases k6 : op = 6
  · subst k6
    rw [if_pos rfl]
    go_enter Tryd.func30, Tryd.ntmps30
    go_upto_region 1 with fail
    have b1 := below_alloc w (.cells #[.int .i64 6, .int .i64 to, .int .i64 a, .int .i64 b, .int .i64 c] 24)
    have IX0 := (Box5.new w 24 ⟨6, to, a, b, c⟩)
    replace IX0 : Hid (Box5 (w.alloc (.cells #[.int .i64 6, .int .i64 to, .int .i64 a, .int .i64 b, .int .i64 c] 24)) (w.heap.size) 24 ⟨6, to, a, b, c⟩) := hide IX0
    have HB := hide b1
    clear b1
    generalize w.alloc (.cells #[.int .i64 6, .int .i64 to, .int .i64 a, .int .i64 b, .int .i64 c] 24) = w1 at *
    obtain ⟨B0, hB0⟩ : ∃ B, B = w.heap.size := ⟨_, rfl⟩
    have ZB0 := hide hB0
    rw [← hB0] at IX0 ⊢
    clear hB0
    have k0 := IX0.out.cells.cell0
    have k1 := IX0.out.cells.cell1
    have k2 := IX0.out.cells.cell2
    have k3 := IX0.out.cells.cell3
    have k4 := IX0.out.cells.cell4
    simp only [Nat.zero_add] at k1 k2 k3 k4
    go_wp2_with fail
    refine (quotient_any x c _ hx hx1 hx0 h0 h1 (H2.out (by first | rfl | trivial))).mono ?_
    rintro e w2 ⟨⟨o, z, ok, rfl, ht⟩, hb⟩
    replace HB := hide (HB.out.trans (hb.mono HB.out.size))
    clear hb k0 k1 k2 k3 k4
    have HT := hide ht
    clear ht
    go_wp2
    (try simp only [Exit.inBlock, Exit.then]); refine ret_tmp3 rfl rfl ?_
    exact ⟨⟨o, z, ok, by simp, HT.out⟩, HB.out⟩
  rw [if_neg k6]
  go_enter Tryd.func30, Tryd.ntmps30
  go_upto_region 1 with fail
  have b1 := below_alloc w (.cells #[.int .i64 op, .int .i64 to, .int .i64 a, .int .i64 b, .int .i64 c] 24)
  have IX0 := (Box5.new w 24 ⟨op, to, a, b, c⟩)
  replace IX0 : Hid (Box5 (w.alloc (.cells #[.int .i64 op, .int .i64 to, .int .i64 a, .int .i64 b, .int .i64 c] 24)) (w.heap.size) 24 ⟨op, to, a, b, c⟩) := hide IX0
  have HB := hide b1
  clear b1
  generalize w.alloc (.cells #[.int .i64 op, .int .i64 to, .int .i64 a, .int .i64 b, .int .i64 c] 24) = w1 at *
  obtain ⟨B0, hB0⟩ : ∃ B, B = w.heap.size := ⟨_, rfl⟩
  have ZB0 := hide hB0
  rw [← hB0] at IX0 ⊢
  clear hB0
  have k0 := IX0.out.cells.cell0
  have k1 := IX0.out.cells.cell1
  have k2 := IX0.out.cells.cell2
  have k3 := IX0.out.cells.cell3
  have k4 := IX0.out.cells.cell4
  simp only [Nat.zero_add] at k1 k2 k3 k4
  go_wp2
  (try simp only [Exit.inBlock, Exit.then]); refine ret_tmp3 rfl rfl ?_
  exact ⟨⟨0, 0, false, by simp, rfl⟩, HB.out⟩
set_option maxRecDepth 100000 in
set_option maxHeartbeats 4000000 in
theorem bdiv_any (x : Int) (i : Ins) (w : World) (hx : -512 ≤ x) (hx1 : x ≤ 512) (_hx0 : x ≠ 0) (h0 : -512 ≤ i.c) (h1 : i.c ≤ 512) (h2 : i.op = 6 → i.c ≠ 0) :
    Calls Tryd.prog 31 #[.int .i64 x, .agg #[.int .i64 i.op, .int .i64 i.to, .int .i64 i.a, .int .i64 i.b, .int .i64 i.c]] w fun e w' => TogE e (tog 6 x i.op i.c) ∧ Below w.heap.size w w' := by
  obtain ⟨op, to, a, b, c⟩ := i
  dsimp only at h0 h1 h2 ⊢
  have H2 := hide h2
  clear h2
  have m1 : x * c ≤ 262144 ∧ -262144 ≤ x * c := by
    have e1 : (x * c).natAbs = x.natAbs * c.natAbs := Int.natAbs_mul x c
    have e2 : x.natAbs * c.natAbs ≤ 512 * 512 := Nat.mul_le_mul (by omega) (by omega)
    omega
  have hw : IntKind.i64.wrap (x * c) = x * c := by rw [IntKind.wrap_i64]; omega
  unfold tog
  rw [if_neg (by decide), if_neg (by decide), if_neg (by decide), if_pos rfl]
  by_cases k2 : op = 2
  · subst k2
    rw [if_pos rfl]
    go_enter Tryd.func31, Tryd.ntmps31
    go_upto_region 1 with fail
    have b1 := below_alloc w (.cells #[.int .i64 2, .int .i64 to, .int .i64 a, .int .i64 b, .int .i64 c] 24)
    have IX0 := (Box5.new w 24 ⟨2, to, a, b, c⟩)
    replace IX0 : Hid (Box5 (w.alloc (.cells #[.int .i64 2, .int .i64 to, .int .i64 a, .int .i64 b, .int .i64 c] 24)) (w.heap.size) 24 ⟨2, to, a, b, c⟩) := hide IX0
    have HB := hide b1
    clear b1
    generalize w.alloc (.cells #[.int .i64 2, .int .i64 to, .int .i64 a, .int .i64 b, .int .i64 c] 24) = w1 at *
    obtain ⟨B0, hB0⟩ : ∃ B, B = w.heap.size := ⟨_, rfl⟩
    have ZB0 := hide hB0
    rw [← hB0] at IX0 ⊢
    clear hB0
    have k0 := IX0.out.cells.cell0
    have k1 := IX0.out.cells.cell1
    have k2 := IX0.out.cells.cell2
    have k3 := IX0.out.cells.cell3
    have k4 := IX0.out.cells.cell4
    simp only [Nat.zero_add] at k1 k2 k3 k4
    go_wp2
    (try simp only [Exit.inBlock, Exit.then]); refine ret_tmp3 rfl rfl ?_
    exact ⟨⟨6, -x, true, by simp, rfl⟩, HB.out⟩
  rw [if_neg k2]
  by_cases k5 : op = 6
  · subst k5
    rw [if_pos rfl]
    go_enter Tryd.func31, Tryd.ntmps31
    go_upto_region 1 with fail
    have b1 := below_alloc w (.cells #[.int .i64 6, .int .i64 to, .int .i64 a, .int .i64 b, .int .i64 c] 24)
    have IX0 := (Box5.new w 24 ⟨6, to, a, b, c⟩)
    replace IX0 : Hid (Box5 (w.alloc (.cells #[.int .i64 6, .int .i64 to, .int .i64 a, .int .i64 b, .int .i64 c] 24)) (w.heap.size) 24 ⟨6, to, a, b, c⟩) := hide IX0
    have HB := hide b1
    clear b1
    generalize w.alloc (.cells #[.int .i64 6, .int .i64 to, .int .i64 a, .int .i64 b, .int .i64 c] 24) = w1 at *
    obtain ⟨B0, hB0⟩ : ∃ B, B = w.heap.size := ⟨_, rfl⟩
    have ZB0 := hide hB0
    rw [← hB0] at IX0 ⊢
    clear hB0
    have k0 := IX0.out.cells.cell0
    have k1 := IX0.out.cells.cell1
    have k2 := IX0.out.cells.cell2
    have k3 := IX0.out.cells.cell3
    have k4 := IX0.out.cells.cell4
    simp only [Nat.zero_add] at k1 k2 k3 k4
    go_wp2
    go_quiet (refine Calls.quiet_of_same (isConst_any (x * c) _))
    go_wp2
    (try simp only [Exit.inBlock, Exit.then]); refine ret_tmp3 rfl rfl ?_
    exact ⟨⟨6, x * c, conB (x * c), by simp, rfl⟩, drewN_below HB.out _⟩
  rw [if_neg k5]
  go_enter Tryd.func31, Tryd.ntmps31
  go_upto_region 1 with fail
  have b1 := below_alloc w (.cells #[.int .i64 op, .int .i64 to, .int .i64 a, .int .i64 b, .int .i64 c] 24)
  have IX0 := (Box5.new w 24 ⟨op, to, a, b, c⟩)
  replace IX0 : Hid (Box5 (w.alloc (.cells #[.int .i64 op, .int .i64 to, .int .i64 a, .int .i64 b, .int .i64 c] 24)) (w.heap.size) 24 ⟨op, to, a, b, c⟩) := hide IX0
  have HB := hide b1
  clear b1
  generalize w.alloc (.cells #[.int .i64 op, .int .i64 to, .int .i64 a, .int .i64 b, .int .i64 c] 24) = w1 at *
  obtain ⟨B0, hB0⟩ : ∃ B, B = w.heap.size := ⟨_, rfl⟩
  have ZB0 := hide hB0
  rw [← hB0] at IX0 ⊢
  clear hB0
  have k0 := IX0.out.cells.cell0
  have k1 := IX0.out.cells.cell1
  have k2 := IX0.out.cells.cell2
  have k3 := IX0.out.cells.cell3
  have k4 := IX0.out.cells.cell4
  simp only [Nat.zero_add] at k1 k2 k3 k4
  go_wp2
  (try simp only [Exit.inBlock, Exit.then]); refine ret_tmp3 rfl rfl ?_
  exact ⟨⟨0, 0, false, by simp, rfl⟩, HB.out⟩
set_option maxRecDepth 100000 in
set_option maxHeartbeats 4000000 in
theorem bshl_any (x : Int) (i : Ins) (w : World) (hx : 1 ≤ x) (hx1 : x ≤ 64) (h0 : -512 ≤ i.c) (h1 : i.c ≤ 512) (h2 : i.op = 8 → 1 ≤ i.c ∧ i.c ≤ 64) :
    Calls Tryd.prog 32 #[.int .i64 x, .agg #[.int .i64 i.op, .int .i64 i.to, .int .i64 i.a, .int .i64 i.b, .int .i64 i.c]] w fun e w' => TogE e (tog 7 x i.op i.c) ∧ Below w.heap.size w w' := by
  obtain ⟨op, to, a, b, c⟩ := i
  dsimp only at h0 h1 h2 ⊢
  have H2 := hide h2
  clear h2
  unfold tog
  rw [if_neg (by decide), if_neg (by decide), if_neg (by decide), if_neg (by decide), if_pos rfl]
  by_cases k5 : op = 7
  · subst k5
    rw [if_pos rfl]
    go_enter Tryd.func32, Tryd.ntmps32
    go_upto_region 1 with fail
    have b1 := below_alloc w (.cells #[.int .i64 7, .int .i64 to, .int .i64 a, .int .i64 b, .int .i64 c] 24)
    have IX0 := (Box5.new w 24 ⟨7, to, a, b, c⟩)
    replace IX0 : Hid (Box5 (w.alloc (.cells #[.int .i64 7, .int .i64 to, .int .i64 a, .int .i64 b, .int .i64 c] 24)) (w.heap.size) 24 ⟨7, to, a, b, c⟩) := hide IX0
    have HB := hide b1
    clear b1
    generalize w.alloc (.cells #[.int .i64 7, .int .i64 to, .int .i64 a, .int .i64 b, .int .i64 c] 24) = w1 at *
    obtain ⟨B0, hB0⟩ : ∃ B, B = w.heap.size := ⟨_, rfl⟩
    have ZB0 := hide hB0
    rw [← hB0] at IX0 ⊢
    clear hB0
    have k0 := IX0.out.cells.cell0
    have k1 := IX0.out.cells.cell1
    have k2 := IX0.out.cells.cell2
    have k3 := IX0.out.cells.cell3
    have k4 := IX0.out.cells.cell4
    simp only [Nat.zero_add] at k1 k2 k3 k4
    go_wp2
    go_quiet (refine Calls.quiet_of_same (isShift_any (x + c) _))
    go_wp2
    (try simp only [Exit.inBlock, Exit.then]); refine ret_tmp3 rfl rfl ?_
    exact ⟨⟨7, x + c, shB (x + c), by simp, rfl⟩, drewN_below HB.out _⟩
  rw [if_neg k5]
  by_cases k6 : op = 8
  · subst k6
    rw [if_pos rfl]
    go_enter Tryd.func32, Tryd.ntmps32
    go_upto_region 1 with fail
    have b1 := below_alloc w (.cells #[.int .i64 8, .int .i64 to, .int .i64 a, .int .i64 b, .int .i64 c] 24)
    have IX0 := (Box5.new w 24 ⟨8, to, a, b, c⟩)
    replace IX0 : Hid (Box5 (w.alloc (.cells #[.int .i64 8, .int .i64 to, .int .i64 a, .int .i64 b, .int .i64 c] 24)) (w.heap.size) 24 ⟨8, to, a, b, c⟩) := hide IX0
    have HB := hide b1
    clear b1
    generalize w.alloc (.cells #[.int .i64 8, .int .i64 to, .int .i64 a, .int .i64 b, .int .i64 c] 24) = w1 at *
    obtain ⟨B0, hB0⟩ : ∃ B, B = w.heap.size := ⟨_, rfl⟩
    have ZB0 := hide hB0
    rw [← hB0] at IX0 ⊢
    clear hB0
    have k0 := IX0.out.cells.cell0
    have k1 := IX0.out.cells.cell1
    have k2 := IX0.out.cells.cell2
    have k3 := IX0.out.cells.cell3
    have k4 := IX0.out.cells.cell4
    simp only [Nat.zero_add] at k1 k2 k3 k4
    go_wp2_with fail
    refine (difference_any x c _ hx hx1 (H2.out (by first | rfl | trivial)).1 (H2.out (by first | rfl | trivial)).2).mono ?_
    rintro e w2 ⟨⟨o, z, ok, rfl, ht⟩, hb⟩
    replace HB := hide (HB.out.trans (hb.mono HB.out.size))
    clear hb k0 k1 k2 k3 k4
    have HT := hide ht
    clear ht
    go_wp2
    (try simp only [Exit.inBlock, Exit.then]); refine ret_tmp3 rfl rfl ?_
    exact ⟨⟨o, z, ok, by simp, HT.out⟩, HB.out⟩
  rw [if_neg k6]
  go_enter Tryd.func32, Tryd.ntmps32
  go_upto_region 1 with fail
  have b1 := below_alloc w (.cells #[.int .i64 op, .int .i64 to, .int .i64 a, .int .i64 b, .int .i64 c] 24)
  have IX0 := (Box5.new w 24 ⟨op, to, a, b, c⟩)
  replace IX0 : Hid (Box5 (w.alloc (.cells #[.int .i64 op, .int .i64 to, .int .i64 a, .int .i64 b, .int .i64 c] 24)) (w.heap.size) 24 ⟨op, to, a, b, c⟩) := hide IX0
  have HB := hide b1
  clear b1
  generalize w.alloc (.cells #[.int .i64 op, .int .i64 to, .int .i64 a, .int .i64 b, .int .i64 c] 24) = w1 at *
  obtain ⟨B0, hB0⟩ : ∃ B, B = w.heap.size := ⟨_, rfl⟩
  have ZB0 := hide hB0
  rw [← hB0] at IX0 ⊢
  clear hB0
  have k0 := IX0.out.cells.cell0
  have k1 := IX0.out.cells.cell1
  have k2 := IX0.out.cells.cell2
  have k3 := IX0.out.cells.cell3
  have k4 := IX0.out.cells.cell4
  simp only [Nat.zero_add] at k1 k2 k3 k4
  go_wp2
  (try simp only [Exit.inBlock, Exit.then]); refine ret_tmp3 rfl rfl ?_
  exact ⟨⟨0, 0, false, by simp, rfl⟩, HB.out⟩
set_option maxRecDepth 100000 in
set_option maxHeartbeats 4000000 in
theorem bshr_any (x : Int) (i : Ins) (w : World) (hx : 1 ≤ x) (hx1 : x ≤ 64) (h0 : -512 ≤ i.c) (h1 : i.c ≤ 512) (h2 : i.op = 8 → 1 ≤ i.c ∧ i.c ≤ 64) :
    Calls Tryd.prog 33 #[.int .i64 x, .agg #[.int .i64 i.op, .int .i64 i.to, .int .i64 i.a, .int .i64 i.b, .int .i64 i.c]] w fun e w' => TogE e (tog 8 x i.op i.c) ∧ Below w.heap.size w w' := by
  obtain ⟨op, to, a, b, c⟩ := i
  dsimp only at h0 h1 h2 ⊢
  have H2 := hide h2
  clear h2
  unfold tog
  rw [if_neg (by decide), if_neg (by decide), if_neg (by decide), if_neg (by decide), if_neg (by decide), if_pos rfl]
  by_cases k5 : op = 8
  · subst k5
    rw [if_pos rfl]
    go_enter Tryd.func33, Tryd.ntmps33
    go_upto_region 1 with fail
    have b1 := below_alloc w (.cells #[.int .i64 8, .int .i64 to, .int .i64 a, .int .i64 b, .int .i64 c] 24)
    have IX0 := (Box5.new w 24 ⟨8, to, a, b, c⟩)
    replace IX0 : Hid (Box5 (w.alloc (.cells #[.int .i64 8, .int .i64 to, .int .i64 a, .int .i64 b, .int .i64 c] 24)) (w.heap.size) 24 ⟨8, to, a, b, c⟩) := hide IX0
    have HB := hide b1
    clear b1
    generalize w.alloc (.cells #[.int .i64 8, .int .i64 to, .int .i64 a, .int .i64 b, .int .i64 c] 24) = w1 at *
    obtain ⟨B0, hB0⟩ : ∃ B, B = w.heap.size := ⟨_, rfl⟩
    have ZB0 := hide hB0
    rw [← hB0] at IX0 ⊢
    clear hB0
    have k0 := IX0.out.cells.cell0
    have k1 := IX0.out.cells.cell1
    have k2 := IX0.out.cells.cell2
    have k3 := IX0.out.cells.cell3
    have k4 := IX0.out.cells.cell4
    simp only [Nat.zero_add] at k1 k2 k3 k4
    go_wp2
    go_quiet (refine Calls.quiet_of_same (isShift_any (x + c) _))
    go_wp2
    (try simp only [Exit.inBlock, Exit.then]); refine ret_tmp3 rfl rfl ?_
    exact ⟨⟨8, x + c, shB (x + c), by simp, rfl⟩, drewN_below HB.out _⟩
  rw [if_neg k5]
  go_enter Tryd.func33, Tryd.ntmps33
  go_upto_region 1 with fail
  have b1 := below_alloc w (.cells #[.int .i64 op, .int .i64 to, .int .i64 a, .int .i64 b, .int .i64 c] 24)
  have IX0 := (Box5.new w 24 ⟨op, to, a, b, c⟩)
  replace IX0 : Hid (Box5 (w.alloc (.cells #[.int .i64 op, .int .i64 to, .int .i64 a, .int .i64 b, .int .i64 c] 24)) (w.heap.size) 24 ⟨op, to, a, b, c⟩) := hide IX0
  have HB := hide b1
  clear b1
  generalize w.alloc (.cells #[.int .i64 op, .int .i64 to, .int .i64 a, .int .i64 b, .int .i64 c] 24) = w1 at *
  obtain ⟨B0, hB0⟩ : ∃ B, B = w.heap.size := ⟨_, rfl⟩
  have ZB0 := hide hB0
  rw [← hB0] at IX0 ⊢
  clear hB0
  have k0 := IX0.out.cells.cell0
  have k1 := IX0.out.cells.cell1
  have k2 := IX0.out.cells.cell2
  have k3 := IX0.out.cells.cell3
  have k4 := IX0.out.cells.cell4
  simp only [Nat.zero_add] at k1 k2 k3 k4
  go_wp2
  (try simp only [Exit.inBlock, Exit.then]); refine ret_tmp3 rfl rfl ?_
  exact ⟨⟨0, 0, false, by simp, rfl⟩, HB.out⟩
set_option maxRecDepth 100000 in
set_option maxHeartbeats 4000000 in
theorem together_any (i j : Ins) (w : World) (hi : mayB i 128 = true) (hj : mayB j 128 = true) :
    Calls Tryd.prog 20 #[.agg #[.int .i64 i.op, .int .i64 i.to, .int .i64 i.a, .int .i64 i.b, .int .i64 i.c], .agg #[.int .i64 j.op, .int .i64 j.to, .int .i64 j.a, .int .i64 j.b, .int .i64 j.c]] w fun e w' => TogE e (tog i.op i.c j.op j.c) ∧ Below w.heap.size w w' := by
  rw [may_iff] at hi hj
  obtain ⟨ao, t1, aa, ab, ac⟩ := i
  obtain ⟨bo, bt, ba, bb, bc⟩ := j
  dsimp only at hi hj ⊢
  have j1 : -512 ≤ bc ∧ bc ≤ 512 := by omega
  have J6 : Hid (bo = 6 → bc ≠ 0) := hide (by omega)
  have J8 : Hid (bo = 8 → 1 ≤ bc ∧ bc ≤ 64) := hide (by omega)
  have I5 : Hid (ao = 5 ∨ ao = 6 → -512 ≤ ac ∧ ac ≤ 512 ∧ ac ≠ 0) := hide (by omega)
  have I7 : Hid (ao = 7 ∨ ao = 8 → 1 ≤ ac ∧ ac ≤ 64) := hide (by omega)
  clear hi hj
  by_cases k1 : ao = 1
  · subst k1
    rw [show tog 1 ac bo bc = some (bo, bc) from rfl]
    go_enter Tryd.func20, Tryd.ntmps20
    go_upto_region 1 with fail
    have b1 := below_alloc w (.cells #[.int .i64 1, .int .i64 t1, .int .i64 aa, .int .i64 ab, .int .i64 ac] 24)
    have b2 := below_alloc (w.alloc (.cells #[.int .i64 1, .int .i64 t1, .int .i64 aa, .int .i64 ab, .int .i64 ac] 24)) (.cells #[.int .i64 bo, .int .i64 bt, .int .i64 ba, .int .i64 bb, .int .i64 bc] 24)
    have IX0 := ((Box5.new w 24 ⟨1, t1, aa, ab, ac⟩).step b2)
    replace IX0 : Hid (Box5 ((w.alloc (.cells #[.int .i64 1, .int .i64 t1, .int .i64 aa, .int .i64 ab, .int .i64 ac] 24)).alloc (.cells #[.int .i64 bo, .int .i64 bt, .int .i64 ba, .int .i64 bb, .int .i64 bc] 24)) (w.heap.size) 24 ⟨1, t1, aa, ab, ac⟩) := hide IX0
    have IX1 := (Box5.new (w.alloc (.cells #[.int .i64 1, .int .i64 t1, .int .i64 aa, .int .i64 ab, .int .i64 ac] 24)) 24 ⟨bo, bt, ba, bb, bc⟩)
    simp only [World.size_alloc] at IX1
    replace IX1 : Hid (Box5 ((w.alloc (.cells #[.int .i64 1, .int .i64 t1, .int .i64 aa, .int .i64 ab, .int .i64 ac] 24)).alloc (.cells #[.int .i64 bo, .int .i64 bt, .int .i64 ba, .int .i64 bb, .int .i64 bc] 24)) (w.heap.size + 1) 24 ⟨bo, bt, ba, bb, bc⟩) := hide IX1
    have HB := hide (b1.trans (b2.mono b1.size))
    clear b1 b2
    generalize (w.alloc (.cells #[.int .i64 1, .int .i64 t1, .int .i64 aa, .int .i64 ab, .int .i64 ac] 24)).alloc (.cells #[.int .i64 bo, .int .i64 bt, .int .i64 ba, .int .i64 bb, .int .i64 bc] 24) = w1 at *
    obtain ⟨B1, hB1⟩ : ∃ B, B = w.heap.size + 1 := ⟨_, rfl⟩
    have ZB1 := hide hB1
    rw [← hB1] at IX1 ⊢
    clear hB1
    obtain ⟨B0, hB0⟩ : ∃ B, B = w.heap.size := ⟨_, rfl⟩
    have ZB0 := hide hB0
    rw [← hB0] at IX0 ⊢
    clear hB0
    have k0 := IX0.out.cells.cell0
    have k1 := IX0.out.cells.cell1
    have k2 := IX0.out.cells.cell2
    have k3 := IX0.out.cells.cell3
    have k4 := IX0.out.cells.cell4
    simp only [Nat.zero_add] at k1 k2 k3 k4
    have l0 := IX1.out.cells.cell0
    have l1 := IX1.out.cells.cell1
    have l2 := IX1.out.cells.cell2
    have l3 := IX1.out.cells.cell3
    have l4 := IX1.out.cells.cell4
    simp only [Nat.zero_add] at l1 l2 l3 l4
    go_wp2
    go_quiet (fail)
    go_wp2
    (try simp only [Exit.inBlock, Exit.then]); refine ret_tmp3 rfl rfl ?_
    exact ⟨⟨bo, bc, true, by simp, rfl⟩, drewN_below HB.out _⟩
  by_cases k2 : ao = 2
  · subst k2
    rw [show tog 2 ac bo bc = tog 2 0 bo bc from rfl]
    generalize hG : tog 2 0 bo bc = G
    have HG := hide hG
    clear hG
    go_enter Tryd.func20, Tryd.ntmps20
    go_upto_region 1 with fail
    have b1 := below_alloc w (.cells #[.int .i64 2, .int .i64 t1, .int .i64 aa, .int .i64 ab, .int .i64 ac] 24)
    have b2 := below_alloc (w.alloc (.cells #[.int .i64 2, .int .i64 t1, .int .i64 aa, .int .i64 ab, .int .i64 ac] 24)) (.cells #[.int .i64 bo, .int .i64 bt, .int .i64 ba, .int .i64 bb, .int .i64 bc] 24)
    have IX0 := ((Box5.new w 24 ⟨2, t1, aa, ab, ac⟩).step b2)
    replace IX0 : Hid (Box5 ((w.alloc (.cells #[.int .i64 2, .int .i64 t1, .int .i64 aa, .int .i64 ab, .int .i64 ac] 24)).alloc (.cells #[.int .i64 bo, .int .i64 bt, .int .i64 ba, .int .i64 bb, .int .i64 bc] 24)) (w.heap.size) 24 ⟨2, t1, aa, ab, ac⟩) := hide IX0
    have IX1 := (Box5.new (w.alloc (.cells #[.int .i64 2, .int .i64 t1, .int .i64 aa, .int .i64 ab, .int .i64 ac] 24)) 24 ⟨bo, bt, ba, bb, bc⟩)
    simp only [World.size_alloc] at IX1
    replace IX1 : Hid (Box5 ((w.alloc (.cells #[.int .i64 2, .int .i64 t1, .int .i64 aa, .int .i64 ab, .int .i64 ac] 24)).alloc (.cells #[.int .i64 bo, .int .i64 bt, .int .i64 ba, .int .i64 bb, .int .i64 bc] 24)) (w.heap.size + 1) 24 ⟨bo, bt, ba, bb, bc⟩) := hide IX1
    have HB := hide (b1.trans (b2.mono b1.size))
    clear b1 b2
    generalize (w.alloc (.cells #[.int .i64 2, .int .i64 t1, .int .i64 aa, .int .i64 ab, .int .i64 ac] 24)).alloc (.cells #[.int .i64 bo, .int .i64 bt, .int .i64 ba, .int .i64 bb, .int .i64 bc] 24) = w1 at *
    obtain ⟨B1, hB1⟩ : ∃ B, B = w.heap.size + 1 := ⟨_, rfl⟩
    have ZB1 := hide hB1
    rw [← hB1] at IX1 ⊢
    clear hB1
    obtain ⟨B0, hB0⟩ : ∃ B, B = w.heap.size := ⟨_, rfl⟩
    have ZB0 := hide hB0
    rw [← hB0] at IX0 ⊢
    clear hB0
    have k0 := IX0.out.cells.cell0
    have k1 := IX0.out.cells.cell1
    have k2 := IX0.out.cells.cell2
    have k3 := IX0.out.cells.cell3
    have k4 := IX0.out.cells.cell4
    simp only [Nat.zero_add] at k1 k2 k3 k4
    have l0 := IX1.out.cells.cell0
    have l1 := IX1.out.cells.cell1
    have l2 := IX1.out.cells.cell2
    have l3 := IX1.out.cells.cell3
    have l4 := IX1.out.cells.cell4
    simp only [Nat.zero_add] at l1 l2 l3 l4
    go_wp2_with fail
    refine (bneg_any ⟨bo, bt, ba, bb, bc⟩ _ j1.1 j1.2).mono ?_
    rintro e w2 ⟨⟨o, z, ok, rfl, ht⟩, hb⟩
    replace HB := hide (HB.out.trans (hb.mono HB.out.size))
    clear hb k0 k1 k2 k3 k4 l0 l1 l2 l3 l4
    have HT := hide ht
    clear ht
    go_wp2
    (try simp only [Exit.inBlock, Exit.then]); refine ret_tmp3 rfl rfl ?_
    exact ⟨⟨o, z, ok, by simp, HG.out.symm.trans HT.out⟩, HB.out⟩
  by_cases k5 : ao = 5
  · subst k5
    have Q := hide (I5.out (by decide))
    generalize hG : tog 5 ac bo bc = G
    have HG := hide hG
    clear hG
    go_enter Tryd.func20, Tryd.ntmps20
    go_upto_region 1 with fail
    have b1 := below_alloc w (.cells #[.int .i64 5, .int .i64 t1, .int .i64 aa, .int .i64 ab, .int .i64 ac] 24)
    have b2 := below_alloc (w.alloc (.cells #[.int .i64 5, .int .i64 t1, .int .i64 aa, .int .i64 ab, .int .i64 ac] 24)) (.cells #[.int .i64 bo, .int .i64 bt, .int .i64 ba, .int .i64 bb, .int .i64 bc] 24)
    have IX0 := ((Box5.new w 24 ⟨5, t1, aa, ab, ac⟩).step b2)
    replace IX0 : Hid (Box5 ((w.alloc (.cells #[.int .i64 5, .int .i64 t1, .int .i64 aa, .int .i64 ab, .int .i64 ac] 24)).alloc (.cells #[.int .i64 bo, .int .i64 bt, .int .i64 ba, .int .i64 bb, .int .i64 bc] 24)) (w.heap.size) 24 ⟨5, t1, aa, ab, ac⟩) := hide IX0
    have IX1 := (Box5.new (w.alloc (.cells #[.int .i64 5, .int .i64 t1, .int .i64 aa, .int .i64 ab, .int .i64 ac] 24)) 24 ⟨bo, bt, ba, bb, bc⟩)
    simp only [World.size_alloc] at IX1
    replace IX1 : Hid (Box5 ((w.alloc (.cells #[.int .i64 5, .int .i64 t1, .int .i64 aa, .int .i64 ab, .int .i64 ac] 24)).alloc (.cells #[.int .i64 bo, .int .i64 bt, .int .i64 ba, .int .i64 bb, .int .i64 bc] 24)) (w.heap.size + 1) 24 ⟨bo, bt, ba, bb, bc⟩) := hide IX1
    have HB := hide (b1.trans (b2.mono b1.size))
    clear b1 b2
    generalize (w.alloc (.cells #[.int .i64 5, .int .i64 t1, .int .i64 aa, .int .i64 ab, .int .i64 ac] 24)).alloc (.cells #[.int .i64 bo, .int .i64 bt, .int .i64 ba, .int .i64 bb, .int .i64 bc] 24) = w1 at *
    obtain ⟨B1, hB1⟩ : ∃ B, B = w.heap.size + 1 := ⟨_, rfl⟩
    have ZB1 := hide hB1
    rw [← hB1] at IX1 ⊢
    clear hB1
    obtain ⟨B0, hB0⟩ : ∃ B, B = w.heap.size := ⟨_, rfl⟩
    have ZB0 := hide hB0
    rw [← hB0] at IX0 ⊢
    clear hB0
    have k0 := IX0.out.cells.cell0
    have k1 := IX0.out.cells.cell1
    have k2 := IX0.out.cells.cell2
    have k3 := IX0.out.cells.cell3
    have k4 := IX0.out.cells.cell4
    simp only [Nat.zero_add] at k1 k2 k3 k4
    have l0 := IX1.out.cells.cell0
    have l1 := IX1.out.cells.cell1
    have l2 := IX1.out.cells.cell2
    have l3 := IX1.out.cells.cell3
    have l4 := IX1.out.cells.cell4
    simp only [Nat.zero_add] at l1 l2 l3 l4
    go_wp2_with fail
    refine (bmul_any ac ⟨bo, bt, ba, bb, bc⟩ _ Q.out.1 Q.out.2.1 Q.out.2.2 j1.1 j1.2 J6.out).mono ?_
    rintro e w2 ⟨⟨o, z, ok, rfl, ht⟩, hb⟩
    replace HB := hide (HB.out.trans (hb.mono HB.out.size))
    clear hb k0 k1 k2 k3 k4 l0 l1 l2 l3 l4
    have HT := hide ht
    clear ht
    go_wp2
    (try simp only [Exit.inBlock, Exit.then]); refine ret_tmp3 rfl rfl ?_
    exact ⟨⟨o, z, ok, by simp, HG.out.symm.trans HT.out⟩, HB.out⟩
  by_cases k6 : ao = 6
  · subst k6
    have Q := hide (I5.out (by decide))
    generalize hG : tog 6 ac bo bc = G
    have HG := hide hG
    clear hG
    go_enter Tryd.func20, Tryd.ntmps20
    go_upto_region 1 with fail
    have b1 := below_alloc w (.cells #[.int .i64 6, .int .i64 t1, .int .i64 aa, .int .i64 ab, .int .i64 ac] 24)
    have b2 := below_alloc (w.alloc (.cells #[.int .i64 6, .int .i64 t1, .int .i64 aa, .int .i64 ab, .int .i64 ac] 24)) (.cells #[.int .i64 bo, .int .i64 bt, .int .i64 ba, .int .i64 bb, .int .i64 bc] 24)
    have IX0 := ((Box5.new w 24 ⟨6, t1, aa, ab, ac⟩).step b2)
    replace IX0 : Hid (Box5 ((w.alloc (.cells #[.int .i64 6, .int .i64 t1, .int .i64 aa, .int .i64 ab, .int .i64 ac] 24)).alloc (.cells #[.int .i64 bo, .int .i64 bt, .int .i64 ba, .int .i64 bb, .int .i64 bc] 24)) (w.heap.size) 24 ⟨6, t1, aa, ab, ac⟩) := hide IX0
    have IX1 := (Box5.new (w.alloc (.cells #[.int .i64 6, .int .i64 t1, .int .i64 aa, .int .i64 ab, .int .i64 ac] 24)) 24 ⟨bo, bt, ba, bb, bc⟩)
    simp only [World.size_alloc] at IX1
    replace IX1 : Hid (Box5 ((w.alloc (.cells #[.int .i64 6, .int .i64 t1, .int .i64 aa, .int .i64 ab, .int .i64 ac] 24)).alloc (.cells #[.int .i64 bo, .int .i64 bt, .int .i64 ba, .int .i64 bb, .int .i64 bc] 24)) (w.heap.size + 1) 24 ⟨bo, bt, ba, bb, bc⟩) := hide IX1
    have HB := hide (b1.trans (b2.mono b1.size))
    clear b1 b2
    generalize (w.alloc (.cells #[.int .i64 6, .int .i64 t1, .int .i64 aa, .int .i64 ab, .int .i64 ac] 24)).alloc (.cells #[.int .i64 bo, .int .i64 bt, .int .i64 ba, .int .i64 bb, .int .i64 bc] 24) = w1 at *
    obtain ⟨B1, hB1⟩ : ∃ B, B = w.heap.size + 1 := ⟨_, rfl⟩
    have ZB1 := hide hB1
    rw [← hB1] at IX1 ⊢
    clear hB1
    obtain ⟨B0, hB0⟩ : ∃ B, B = w.heap.size := ⟨_, rfl⟩
    have ZB0 := hide hB0
    rw [← hB0] at IX0 ⊢
    clear hB0
    have k0 := IX0.out.cells.cell0
    have k1 := IX0.out.cells.cell1
    have k2 := IX0.out.cells.cell2
    have k3 := IX0.out.cells.cell3
    have k4 := IX0.out.cells.cell4
    simp only [Nat.zero_add] at k1 k2 k3 k4
    have l0 := IX1.out.cells.cell0
    have l1 := IX1.out.cells.cell1
    have l2 := IX1.out.cells.cell2
    have l3 := IX1.out.cells.cell3
    have l4 := IX1.out.cells.cell4
    simp only [Nat.zero_add] at l1 l2 l3 l4
    go_wp2_with fail
    refine (bdiv_any ac ⟨bo, bt, ba, bb, bc⟩ _ Q.out.1 Q.out.2.1 Q.out.2.2 j1.1 j1.2 J6.out).mono ?_
    rintro e w2 ⟨⟨o, z, ok, rfl, ht⟩, hb⟩
    replace HB := hide (HB.out.trans (hb.mono HB.out.size))
    clear hb k0 k1 k2 k3 k4 l0 l1 l2 l3 l4
    have HT := hide ht
    clear ht
    go_wp2
    (try simp only [Exit.inBlock, Exit.then]); refine ret_tmp3 rfl rfl ?_
    exact ⟨⟨o, z, ok, by simp, HG.out.symm.trans HT.out⟩, HB.out⟩
  by_cases k7 : ao = 7
  · subst k7
    have Q := hide (I7.out (by decide))
    generalize hG : tog 7 ac bo bc = G
    have HG := hide hG
    clear hG
    go_enter Tryd.func20, Tryd.ntmps20
    go_upto_region 1 with fail
    have b1 := below_alloc w (.cells #[.int .i64 7, .int .i64 t1, .int .i64 aa, .int .i64 ab, .int .i64 ac] 24)
    have b2 := below_alloc (w.alloc (.cells #[.int .i64 7, .int .i64 t1, .int .i64 aa, .int .i64 ab, .int .i64 ac] 24)) (.cells #[.int .i64 bo, .int .i64 bt, .int .i64 ba, .int .i64 bb, .int .i64 bc] 24)
    have IX0 := ((Box5.new w 24 ⟨7, t1, aa, ab, ac⟩).step b2)
    replace IX0 : Hid (Box5 ((w.alloc (.cells #[.int .i64 7, .int .i64 t1, .int .i64 aa, .int .i64 ab, .int .i64 ac] 24)).alloc (.cells #[.int .i64 bo, .int .i64 bt, .int .i64 ba, .int .i64 bb, .int .i64 bc] 24)) (w.heap.size) 24 ⟨7, t1, aa, ab, ac⟩) := hide IX0
    have IX1 := (Box5.new (w.alloc (.cells #[.int .i64 7, .int .i64 t1, .int .i64 aa, .int .i64 ab, .int .i64 ac] 24)) 24 ⟨bo, bt, ba, bb, bc⟩)
    simp only [World.size_alloc] at IX1
    replace IX1 : Hid (Box5 ((w.alloc (.cells #[.int .i64 7, .int .i64 t1, .int .i64 aa, .int .i64 ab, .int .i64 ac] 24)).alloc (.cells #[.int .i64 bo, .int .i64 bt, .int .i64 ba, .int .i64 bb, .int .i64 bc] 24)) (w.heap.size + 1) 24 ⟨bo, bt, ba, bb, bc⟩) := hide IX1
    have HB := hide (b1.trans (b2.mono b1.size))
    clear b1 b2
    generalize (w.alloc (.cells #[.int .i64 7, .int .i64 t1, .int .i64 aa, .int .i64 ab, .int .i64 ac] 24)).alloc (.cells #[.int .i64 bo, .int .i64 bt, .int .i64 ba, .int .i64 bb, .int .i64 bc] 24) = w1 at *
    obtain ⟨B1, hB1⟩ : ∃ B, B = w.heap.size + 1 := ⟨_, rfl⟩
    have ZB1 := hide hB1
    rw [← hB1] at IX1 ⊢
    clear hB1
    obtain ⟨B0, hB0⟩ : ∃ B, B = w.heap.size := ⟨_, rfl⟩
    have ZB0 := hide hB0
    rw [← hB0] at IX0 ⊢
    clear hB0
    have k0 := IX0.out.cells.cell0
    have k1 := IX0.out.cells.cell1
    have k2 := IX0.out.cells.cell2
    have k3 := IX0.out.cells.cell3
    have k4 := IX0.out.cells.cell4
    simp only [Nat.zero_add] at k1 k2 k3 k4
    have l0 := IX1.out.cells.cell0
    have l1 := IX1.out.cells.cell1
    have l2 := IX1.out.cells.cell2
    have l3 := IX1.out.cells.cell3
    have l4 := IX1.out.cells.cell4
    simp only [Nat.zero_add] at l1 l2 l3 l4
    go_wp2_with fail
    refine (bshl_any ac ⟨bo, bt, ba, bb, bc⟩ _ Q.out.1 Q.out.2 j1.1 j1.2 J8.out).mono ?_
    rintro e w2 ⟨⟨o, z, ok, rfl, ht⟩, hb⟩
    replace HB := hide (HB.out.trans (hb.mono HB.out.size))
    clear hb k0 k1 k2 k3 k4 l0 l1 l2 l3 l4
    have HT := hide ht
    clear ht
    go_wp2
    (try simp only [Exit.inBlock, Exit.then]); refine ret_tmp3 rfl rfl ?_
    exact ⟨⟨o, z, ok, by simp, HG.out.symm.trans HT.out⟩, HB.out⟩
  by_cases k8 : ao = 8
  · subst k8
    have Q := hide (I7.out (by decide))
    generalize hG : tog 8 ac bo bc = G
    have HG := hide hG
    clear hG
    go_enter Tryd.func20, Tryd.ntmps20
    go_upto_region 1 with fail
    have b1 := below_alloc w (.cells #[.int .i64 8, .int .i64 t1, .int .i64 aa, .int .i64 ab, .int .i64 ac] 24)
    have b2 := below_alloc (w.alloc (.cells #[.int .i64 8, .int .i64 t1, .int .i64 aa, .int .i64 ab, .int .i64 ac] 24)) (.cells #[.int .i64 bo, .int .i64 bt, .int .i64 ba, .int .i64 bb, .int .i64 bc] 24)
    have IX0 := ((Box5.new w 24 ⟨8, t1, aa, ab, ac⟩).step b2)
    replace IX0 : Hid (Box5 ((w.alloc (.cells #[.int .i64 8, .int .i64 t1, .int .i64 aa, .int .i64 ab, .int .i64 ac] 24)).alloc (.cells #[.int .i64 bo, .int .i64 bt, .int .i64 ba, .int .i64 bb, .int .i64 bc] 24)) (w.heap.size) 24 ⟨8, t1, aa, ab, ac⟩) := hide IX0
    have IX1 := (Box5.new (w.alloc (.cells #[.int .i64 8, .int .i64 t1, .int .i64 aa, .int .i64 ab, .int .i64 ac] 24)) 24 ⟨bo, bt, ba, bb, bc⟩)
    simp only [World.size_alloc] at IX1
    replace IX1 : Hid (Box5 ((w.alloc (.cells #[.int .i64 8, .int .i64 t1, .int .i64 aa, .int .i64 ab, .int .i64 ac] 24)).alloc (.cells #[.int .i64 bo, .int .i64 bt, .int .i64 ba, .int .i64 bb, .int .i64 bc] 24)) (w.heap.size + 1) 24 ⟨bo, bt, ba, bb, bc⟩) := hide IX1
    have HB := hide (b1.trans (b2.mono b1.size))
    clear b1 b2
    generalize (w.alloc (.cells #[.int .i64 8, .int .i64 t1, .int .i64 aa, .int .i64 ab, .int .i64 ac] 24)).alloc (.cells #[.int .i64 bo, .int .i64 bt, .int .i64 ba, .int .i64 bb, .int .i64 bc] 24) = w1 at *
    obtain ⟨B1, hB1⟩ : ∃ B, B = w.heap.size + 1 := ⟨_, rfl⟩
    have ZB1 := hide hB1
    rw [← hB1] at IX1 ⊢
    clear hB1
    obtain ⟨B0, hB0⟩ : ∃ B, B = w.heap.size := ⟨_, rfl⟩
    have ZB0 := hide hB0
    rw [← hB0] at IX0 ⊢
    clear hB0
    have k0 := IX0.out.cells.cell0
    have k1 := IX0.out.cells.cell1
    have k2 := IX0.out.cells.cell2
    have k3 := IX0.out.cells.cell3
    have k4 := IX0.out.cells.cell4
    simp only [Nat.zero_add] at k1 k2 k3 k4
    have l0 := IX1.out.cells.cell0
    have l1 := IX1.out.cells.cell1
    have l2 := IX1.out.cells.cell2
    have l3 := IX1.out.cells.cell3
    have l4 := IX1.out.cells.cell4
    simp only [Nat.zero_add] at l1 l2 l3 l4
    go_wp2_with fail
    refine (bshr_any ac ⟨bo, bt, ba, bb, bc⟩ _ Q.out.1 Q.out.2 j1.1 j1.2 J8.out).mono ?_
    rintro e w2 ⟨⟨o, z, ok, rfl, ht⟩, hb⟩
    replace HB := hide (HB.out.trans (hb.mono HB.out.size))
    clear hb k0 k1 k2 k3 k4 l0 l1 l2 l3 l4
    have HT := hide ht
    clear ht
    go_wp2
    (try simp only [Exit.inBlock, Exit.then]); refine ret_tmp3 rfl rfl ?_
    exact ⟨⟨o, z, ok, by simp, HG.out.symm.trans HT.out⟩, HB.out⟩
  rw [show tog ao ac bo bc = none by unfold tog; rw [if_neg k1, if_neg k2, if_neg k5, if_neg k6, if_neg k7, if_neg k8]]
  go_enter Tryd.func20, Tryd.ntmps20
  go_upto_region 1 with fail
  have b1 := below_alloc w (.cells #[.int .i64 ao, .int .i64 t1, .int .i64 aa, .int .i64 ab, .int .i64 ac] 24)
  have b2 := below_alloc (w.alloc (.cells #[.int .i64 ao, .int .i64 t1, .int .i64 aa, .int .i64 ab, .int .i64 ac] 24)) (.cells #[.int .i64 bo, .int .i64 bt, .int .i64 ba, .int .i64 bb, .int .i64 bc] 24)
  have IX0 := ((Box5.new w 24 ⟨ao, t1, aa, ab, ac⟩).step b2)
  replace IX0 : Hid (Box5 ((w.alloc (.cells #[.int .i64 ao, .int .i64 t1, .int .i64 aa, .int .i64 ab, .int .i64 ac] 24)).alloc (.cells #[.int .i64 bo, .int .i64 bt, .int .i64 ba, .int .i64 bb, .int .i64 bc] 24)) (w.heap.size) 24 ⟨ao, t1, aa, ab, ac⟩) := hide IX0
  have IX1 := (Box5.new (w.alloc (.cells #[.int .i64 ao, .int .i64 t1, .int .i64 aa, .int .i64 ab, .int .i64 ac] 24)) 24 ⟨bo, bt, ba, bb, bc⟩)
  simp only [World.size_alloc] at IX1
  replace IX1 : Hid (Box5 ((w.alloc (.cells #[.int .i64 ao, .int .i64 t1, .int .i64 aa, .int .i64 ab, .int .i64 ac] 24)).alloc (.cells #[.int .i64 bo, .int .i64 bt, .int .i64 ba, .int .i64 bb, .int .i64 bc] 24)) (w.heap.size + 1) 24 ⟨bo, bt, ba, bb, bc⟩) := hide IX1
  have HB := hide (b1.trans (b2.mono b1.size))
  clear b1 b2
  generalize (w.alloc (.cells #[.int .i64 ao, .int .i64 t1, .int .i64 aa, .int .i64 ab, .int .i64 ac] 24)).alloc (.cells #[.int .i64 bo, .int .i64 bt, .int .i64 ba, .int .i64 bb, .int .i64 bc] 24) = w1 at *
  obtain ⟨B1, hB1⟩ : ∃ B, B = w.heap.size + 1 := ⟨_, rfl⟩
  have ZB1 := hide hB1
  rw [← hB1] at IX1 ⊢
  clear hB1
  obtain ⟨B0, hB0⟩ : ∃ B, B = w.heap.size := ⟨_, rfl⟩
  have ZB0 := hide hB0
  rw [← hB0] at IX0 ⊢
  clear hB0
  have k0 := IX0.out.cells.cell0
  have k1 := IX0.out.cells.cell1
  have k2 := IX0.out.cells.cell2
  have k3 := IX0.out.cells.cell3
  have k4 := IX0.out.cells.cell4
  simp only [Nat.zero_add] at k1 k2 k3 k4
  have l0 := IX1.out.cells.cell0
  have l1 := IX1.out.cells.cell1
  have l2 := IX1.out.cells.cell2
  have l3 := IX1.out.cells.cell3
  have l4 := IX1.out.cells.cell4
  simp only [Nat.zero_add] at l1 l2 l3 l4
  go_wp2
  (try simp only [Exit.inBlock, Exit.then]); refine ret_tmp3 rfl rfl ?_
  exact ⟨⟨0, 0, false, by simp, rfl⟩, HB.out⟩
/-- an instruction, and whether there is one -/
def mlV (m : Option Ins) : Ins := m.getD ⟨0, 0, 0, 0, 0⟩
theorem ret_insb {fn : Func} {R : Ending → World → Prop} {a : Act} {w : World} {p u : Tmp} (h : fn.results = #[.cell p 24, .tmp u]) (g : Nat) (x : Ins)
    (hp : a.tmps.getD p undef = .pointer (some ⟨g, 0, none⟩)) (hg : Box5 w g 24 x) (hd : a.defers = []) (hR : R (.returned (.tuple #[.agg #[.int .i64 x.op, .int .i64 x.to, .int .i64 x.a, .int .i64 x.b, .int .i64 x.c], a.tmps.getD u undef])) w) : bodyPost Tryd.prog fn R .ret a w := by
  refine bodyPost_ret ?_ hd hR
  have hp' : a.tmps[p]?.getD undef = .pointer (some ⟨g, 0, none⟩) := by simpa using hp
  simp [results, h, hp', asAddr, run_loadVar_row w g 24 24 x.vals (0, 0) _ hg Tryd.underlying24 rfl info_ins1, Ins.vals]
end Go.Proofs.YtgkpdeabcijokaaDoor
