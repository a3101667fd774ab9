/- the document's power, Plain, Nothing, fits, out. -/
import Derived.Test.YtlghhpgnhppoeaaDoorFoTg
import Derived.Test.YtlghhpgnhppoeaaDoorCalmL
namespace Go.Proofs.YtlghhpgnhppoeaaDoor
open Go.RowKit

theorem pow_tab : ∀ m : Fin 10, ∀ k : Fin 1025, ((m : Nat) = 0 ∨ (2 : Int) ^ ((m : Nat) - 1) < ((k : Nat) : Int) - 512) → ¬ (2 : Int) ^ (m : Nat) < ((k : Nat) : Int) - 512 → p2 (((k : Nat) : Int) - 512) = if (2 : Int) ^ (m : Nat) = ((k : Nat) : Int) - 512 then ((m : Nat) : Int) else 0 := by decide +kernel
theorem pow_end {c n : Int} {m : Nat} (h0 : -512 ≤ c) (hc : c ≤ 512) (hn : n = (2 : Int) ^ m) (hm : m ≤ 9) (h1 : m = 0 ∨ (2 : Int) ^ (m - 1) < c) (h2 : ¬ n < c) : p2 c = if n = c then (m : Int) else 0 := by
  subst hn
  have h := pow_tab ⟨m, by omega⟩ ⟨(c + 512).toNat, by omega⟩
  have e : (((c + 512).toNat : Nat) : Int) - 512 = c := by omega
  dsimp only at h
  rw [e] at h
  exact h h1 h2
set_option maxRecDepth 100000 in
set_option maxHeartbeats 8000000 in
theorem rpow_any (c : Int) (w : World) (h0 : -512 ≤ c) (h1 : c ≤ 512) :
    Calls Tryd.prog 37 #[.int .i64 c] w fun e w' => e = .returned (.int .i64 (p2 c)) ∧ w' = w := by
  go_enter Tryd.func37, Tryd.ntmps37
  go_wp2
  go_loopw [3, 4] (fun mv nv wr => ∃ (m : Nat) (n : Int), mv = .int .i64 m ∧ nv = .int .i64 n ∧ n = (2 : Int) ^ m ∧ m ≤ 9 ∧ 1 ≤ n ∧ n ≤ 512 ∧ (m = 0 ∨ (2 : Int) ^ (m - 1) < c) ∧ wr = w) (fun _ nv _ => (c - intOf nv).toNat)
  case atStart => exact ⟨0, 1, rfl, rfl, rfl, by omega, by omega, by omega, .inl rfl, rfl⟩
  case round =>
    obtain ⟨m, n, rfl, rfl, hn, hm, n1, n2, hq, rfl⟩ := hrel
    have HN := hide hn
    have HQ := hide hq
    clear hn hq
    by_cases hlt : n < c
    · have hm8 : m + 1 ≤ 9 ∧ n * 2 ≤ 512 := by
        have e := HN.out
        clear HN HQ
        match m, hm with
        | 0, _ => rw [show (2 : Int) ^ 0 = 1 from rfl] at e; omega
        | 1, _ => rw [show (2 : Int) ^ 1 = 2 from rfl] at e; omega
        | 2, _ => rw [show (2 : Int) ^ 2 = 4 from rfl] at e; omega
        | 3, _ => rw [show (2 : Int) ^ 3 = 8 from rfl] at e; omega
        | 4, _ => rw [show (2 : Int) ^ 4 = 16 from rfl] at e; omega
        | 5, _ => rw [show (2 : Int) ^ 5 = 32 from rfl] at e; omega
        | 6, _ => rw [show (2 : Int) ^ 6 = 64 from rfl] at e; omega
        | 7, _ => rw [show (2 : Int) ^ 7 = 128 from rfl] at e; omega
        | 8, _ => rw [show (2 : Int) ^ 8 = 256 from rfl] at e; omega
        | 9, _ => rw [show (2 : Int) ^ 9 = 512 from rfl] at e; omega
      go_wp2
      go_roundw
      case rel => exact ⟨m + 1, n * 2, by go_num, rfl, by rw [HN.out, Int.pow_succ], hm8.1, by omega, hm8.2, .inr (by rw [Nat.add_sub_cancel, ← HN.out]; exact hlt), by first | rfl | trivial⟩
      case measure => simp only [intOf]; omega
    · have HE := hide (pow_end h0 h1 HN.out hm HQ.out hlt)
      clear HN HQ
      by_cases he : n = c
      · rw [if_pos he] at HE
        subst he
        go_wp2
        go_ret
        exact ⟨by rw [HE.out]; rfl, rfl⟩
      · rw [if_neg he] at HE
        go_wp2
        go_ret
        exact ⟨by rw [HE.out]; rfl, rfl⟩
theorem rpow_anyB (c : Int) (w : World) (h0 : -512 ≤ c) (h1 : c ≤ 512) :
    Calls Tryd.prog 37 #[.int .i64 c] w fun e w' => e = .returned (.int .i64 (p2 c)) ∧ Below w.heap.size w w' :=
  (rpow_any c w h0 h1).mono fun _ _ h => ⟨h.1, by rw [h.2]; exact Below.refl _ _⟩
set_option maxRecDepth 100000 in
set_option maxHeartbeats 8000000 in
theorem rnothing_any (i : Ins) (w : World) :
    Calls Tryd.prog 24 #[.agg #[.int .i64 i.op, .int .i64 i.to, .int .i64 i.a, .int .i64 i.b, .int .i64 i.c]] w fun e w' => e = .returned (.bool (noB i)) ∧ Below w.heap.size w w' := by
  obtain ⟨op, to, a, b, c⟩ := i
  unfold noB
  dsimp only
  by_cases h1 : op = 1
  · subst h1
    by_cases h2 : to = a
    · subst h2
      go_enter Tryd.func24, Tryd.ntmps24
      go_wp2
      go_ret
      exact ⟨by simp, below_alloc _ _⟩
    · go_enter Tryd.func24, Tryd.ntmps24
      go_wp2
      go_ret
      exact ⟨by simp [h2], below_alloc _ _⟩
  · go_enter Tryd.func24, Tryd.ntmps24
    go_wp2
    go_ret
    exact ⟨by simp [h1], below_alloc _ _⟩
set_option maxRecDepth 100000 in
theorem rfits_any (c : Int) (w : World) : Calls Tryd.prog 39 #[.int .i64 c] w fun e w' => e = .returned (.bool (conB c)) ∧ w' = w := by
  unfold conB
  by_cases h1 : -512 ≤ c
  · by_cases h2 : c ≤ 512
    · go_enter Tryd.func39, Tryd.ntmps39
      go_wp2
      go_ret
      exact ⟨by simp [h1, h2], rfl⟩
    · go_enter Tryd.func39, Tryd.ntmps39
      go_wp2
      go_ret
      exact ⟨by simp; omega, rfl⟩
  · go_enter Tryd.func39, Tryd.ntmps39
    go_wp2
    go_ret
    exact ⟨by simp; omega, rfl⟩
set_option maxRecDepth 100000 in
set_option maxHeartbeats 8000000 in
theorem rplain_any (i : Ins) (w : World) (h0 : mayB i 128 = true) :
    Calls Tryd.prog 23 #[.agg #[.int .i64 i.op, .int .i64 i.to, .int .i64 i.a, .int .i64 i.b, .int .i64 i.c]] w fun e w' => e = .returned (.agg #[.int .i64 (plI i).op, .int .i64 (plI i).to, .int .i64 (plI i).a, .int .i64 (plI i).b, .int .i64 (plI i).c]) ∧ Below w.heap.size w w' := by
  rw [may_iff] at h0
  obtain ⟨op, to, a, b, c⟩ := i
  dsimp only at h0 ⊢
  by_cases h5 : op = 5
  · subst h5
    have c0 : -512 ≤ c := by omega
    have c1 : c ≤ 512 := by omega
    clear h0
    by_cases e1 : c = 1
    · subst e1
      rw [show plI ⟨5, to, a, b, 1⟩ = ⟨1, to, a, 0, 0⟩ from rfl]
      dsimp only
      go_enter Tryd.func23, Tryd.ntmps23
      go_upto_region 1 with fail
      have b1 := below_alloc w (.cells #[.int .i64 5, .int .i64 to, .int .i64 a, .int .i64 b, .int .i64 1] 24)
      have b2 := below_alloc (w.alloc (.cells #[.int .i64 5, .int .i64 to, .int .i64 a, .int .i64 b, .int .i64 1] 24)) (.cells #[.int .i64 0, .int .i64 0, .int .i64 0, .int .i64 0, .int .i64 0] 24)
      have IX0 := ((Box5.new w 24 ⟨5, to, a, b, 1⟩).step b2)
      replace IX0 : Hid (Box5 ((w.alloc (.cells #[.int .i64 5, .int .i64 to, .int .i64 a, .int .i64 b, .int .i64 1] 24)).alloc (.cells #[.int .i64 0, .int .i64 0, .int .i64 0, .int .i64 0, .int .i64 0] 24)) (w.heap.size) 24 ⟨5, to, a, b, 1⟩) := hide IX0
      have RX := (Box5.new (w.alloc (.cells #[.int .i64 5, .int .i64 to, .int .i64 a, .int .i64 b, .int .i64 1] 24)) 24 ⟨0, 0, 0, 0, 0⟩)
      simp only [World.size_alloc] at RX
      replace RX : Hid (Box5 ((w.alloc (.cells #[.int .i64 5, .int .i64 to, .int .i64 a, .int .i64 b, .int .i64 1] 24)).alloc (.cells #[.int .i64 0, .int .i64 0, .int .i64 0, .int .i64 0, .int .i64 0] 24)) (w.heap.size + 1) 24 ⟨0, 0, 0, 0, 0⟩) := hide RX
      have HB := hide (b1.trans (b2.mono b1.size))
      clear b1 b2
      generalize (w.alloc (.cells #[.int .i64 5, .int .i64 to, .int .i64 a, .int .i64 b, .int .i64 1] 24)).alloc (.cells #[.int .i64 0, .int .i64 0, .int .i64 0, .int .i64 0, .int .i64 0] 24) = w1 at *
      obtain ⟨R, hR⟩ : ∃ B, B = w.heap.size + 1 := ⟨_, rfl⟩
      have ZR := hide hR
      rw [← hR] at RX ⊢
      clear hR
      obtain ⟨B0, hB0⟩ : ∃ B, B = w.heap.size := ⟨_, rfl⟩
      have ZB0 := hide hB0
      rw [← hB0] at IX0 ⊢
      clear hB0
      have k0 := IX0.out.cells.cell0
      have k1 := IX0.out.cells.cell1
      have k2 := IX0.out.cells.cell2
      have k3 := IX0.out.cells.cell3
      have k4 := IX0.out.cells.cell4
      simp only [Nat.zero_add] at k1 k2 k3 k4
      have q0 := RX.out.cells.cell0
      have q1 := RX.out.cells.cell1
      have q2 := RX.out.cells.cell2
      have q3 := RX.out.cells.cell3
      have q4 := RX.out.cells.cell4
      simp only [Nat.zero_add] at q1 q2 q3 q4
      have f0 := RX.out.free 0
      have f1 := RX.out.free 1
      have f2 := RX.out.free 2
      have f3 := RX.out.free 3
      have f4 := RX.out.free 4
      go_wp2
      refine ret_ins rfl R ⟨1, to, a, 0, 0⟩ rfl (RX.out.put ⟨1, to, a, 0, 0⟩) rfl ⟨rfl, ?_⟩
      exact below_put5 HB.out (by have := ZR.out; omega) _ _ _ _ _
    by_cases e2 : c = -1
    · subst e2
      rw [show plI ⟨5, to, a, b, -1⟩ = ⟨2, to, a, 0, 0⟩ from rfl]
      dsimp only
      go_enter Tryd.func23, Tryd.ntmps23
      go_upto_region 1 with fail
      have b1 := below_alloc w (.cells #[.int .i64 5, .int .i64 to, .int .i64 a, .int .i64 b, .int .i64 (-1)] 24)
      have b2 := below_alloc (w.alloc (.cells #[.int .i64 5, .int .i64 to, .int .i64 a, .int .i64 b, .int .i64 (-1)] 24)) (.cells #[.int .i64 0, .int .i64 0, .int .i64 0, .int .i64 0, .int .i64 0] 24)
      have IX0 := ((Box5.new w 24 ⟨5, to, a, b, (-1)⟩).step b2)
      replace IX0 : Hid (Box5 ((w.alloc (.cells #[.int .i64 5, .int .i64 to, .int .i64 a, .int .i64 b, .int .i64 (-1)] 24)).alloc (.cells #[.int .i64 0, .int .i64 0, .int .i64 0, .int .i64 0, .int .i64 0] 24)) (w.heap.size) 24 ⟨5, to, a, b, (-1)⟩) := hide IX0
      have RX := (Box5.new (w.alloc (.cells #[.int .i64 5, .int .i64 to, .int .i64 a, .int .i64 b, .int .i64 (-1)] 24)) 24 ⟨0, 0, 0, 0, 0⟩)
      simp only [World.size_alloc] at RX
      replace RX : Hid (Box5 ((w.alloc (.cells #[.int .i64 5, .int .i64 to, .int .i64 a, .int .i64 b, .int .i64 (-1)] 24)).alloc (.cells #[.int .i64 0, .int .i64 0, .int .i64 0, .int .i64 0, .int .i64 0] 24)) (w.heap.size + 1) 24 ⟨0, 0, 0, 0, 0⟩) := hide RX
      have HB := hide (b1.trans (b2.mono b1.size))
      clear b1 b2
      generalize (w.alloc (.cells #[.int .i64 5, .int .i64 to, .int .i64 a, .int .i64 b, .int .i64 (-1)] 24)).alloc (.cells #[.int .i64 0, .int .i64 0, .int .i64 0, .int .i64 0, .int .i64 0] 24) = w1 at *
      obtain ⟨R, hR⟩ : ∃ B, B = w.heap.size + 1 := ⟨_, rfl⟩
      have ZR := hide hR
      rw [← hR] at RX ⊢
      clear hR
      obtain ⟨B0, hB0⟩ : ∃ B, B = w.heap.size := ⟨_, rfl⟩
      have ZB0 := hide hB0
      rw [← hB0] at IX0 ⊢
      clear hB0
      have k0 := IX0.out.cells.cell0
      have k1 := IX0.out.cells.cell1
      have k2 := IX0.out.cells.cell2
      have k3 := IX0.out.cells.cell3
      have k4 := IX0.out.cells.cell4
      simp only [Nat.zero_add] at k1 k2 k3 k4
      have q0 := RX.out.cells.cell0
      have q1 := RX.out.cells.cell1
      have q2 := RX.out.cells.cell2
      have q3 := RX.out.cells.cell3
      have q4 := RX.out.cells.cell4
      simp only [Nat.zero_add] at q1 q2 q3 q4
      have f0 := RX.out.free 0
      have f1 := RX.out.free 1
      have f2 := RX.out.free 2
      have f3 := RX.out.free 3
      have f4 := RX.out.free 4
      go_wp2
      refine ret_ins rfl R ⟨2, to, a, 0, 0⟩ rfl (RX.out.put ⟨2, to, a, 0, 0⟩) rfl ⟨rfl, ?_⟩
      exact below_put5 HB.out (by have := ZR.out; omega) _ _ _ _ _
    by_cases e3 : 0 < p2 c
    · rw [show plI ⟨5, to, a, b, c⟩ = ⟨7, to, a, 0, p2 c⟩ by unfold plI; simp [e1, e2, e3]]
      dsimp only
      go_enter Tryd.func23, Tryd.ntmps23
      go_upto_region 1 with fail
      have b1 := below_alloc w (.cells #[.int .i64 5, .int .i64 to, .int .i64 a, .int .i64 b, .int .i64 c] 24)
      have b2 := below_alloc (w.alloc (.cells #[.int .i64 5, .int .i64 to, .int .i64 a, .int .i64 b, .int .i64 c] 24)) (.cells #[.int .i64 0, .int .i64 0, .int .i64 0, .int .i64 0, .int .i64 0] 24)
      have IX0 := ((Box5.new w 24 ⟨5, to, a, b, c⟩).step b2)
      replace IX0 : Hid (Box5 ((w.alloc (.cells #[.int .i64 5, .int .i64 to, .int .i64 a, .int .i64 b, .int .i64 c] 24)).alloc (.cells #[.int .i64 0, .int .i64 0, .int .i64 0, .int .i64 0, .int .i64 0] 24)) (w.heap.size) 24 ⟨5, to, a, b, c⟩) := hide IX0
      have RX := (Box5.new (w.alloc (.cells #[.int .i64 5, .int .i64 to, .int .i64 a, .int .i64 b, .int .i64 c] 24)) 24 ⟨0, 0, 0, 0, 0⟩)
      simp only [World.size_alloc] at RX
      replace RX : Hid (Box5 ((w.alloc (.cells #[.int .i64 5, .int .i64 to, .int .i64 a, .int .i64 b, .int .i64 c] 24)).alloc (.cells #[.int .i64 0, .int .i64 0, .int .i64 0, .int .i64 0, .int .i64 0] 24)) (w.heap.size + 1) 24 ⟨0, 0, 0, 0, 0⟩) := hide RX
      have HB := hide (b1.trans (b2.mono b1.size))
      clear b1 b2
      generalize (w.alloc (.cells #[.int .i64 5, .int .i64 to, .int .i64 a, .int .i64 b, .int .i64 c] 24)).alloc (.cells #[.int .i64 0, .int .i64 0, .int .i64 0, .int .i64 0, .int .i64 0] 24) = w1 at *
      obtain ⟨R, hR⟩ : ∃ B, B = w.heap.size + 1 := ⟨_, rfl⟩
      have ZR := hide hR
      rw [← hR] at RX ⊢
      clear hR
      obtain ⟨B0, hB0⟩ : ∃ B, B = w.heap.size := ⟨_, rfl⟩
      have ZB0 := hide hB0
      rw [← hB0] at IX0 ⊢
      clear hB0
      have k0 := IX0.out.cells.cell0
      have k1 := IX0.out.cells.cell1
      have k2 := IX0.out.cells.cell2
      have k3 := IX0.out.cells.cell3
      have k4 := IX0.out.cells.cell4
      simp only [Nat.zero_add] at k1 k2 k3 k4
      have q0 := RX.out.cells.cell0
      have q1 := RX.out.cells.cell1
      have q2 := RX.out.cells.cell2
      have q3 := RX.out.cells.cell3
      have q4 := RX.out.cells.cell4
      simp only [Nat.zero_add] at q1 q2 q3 q4
      have f0 := RX.out.free 0
      have f1 := RX.out.free 1
      have f2 := RX.out.free 2
      have f3 := RX.out.free 3
      have f4 := RX.out.free 4
      go_wp2_with fail
      refine (rpow_any c _ c0 c1).mono ?_
      rintro e w2 ⟨rfl, rfl⟩
      go_upto_region 7 with fail
      clear k0 k1 k2 k3 k4 q0 q1 q2 q3 q4 f0 f1 f2 f3 f4
      refine wp_calm (fun w' => Below w.heap.size w w' ∧ Box5 w' B0 24 ⟨5, to, a, b, c⟩ ∧ Box5 w' R 24 ⟨0, 0, 0, 0, 0⟩) (fun j => j != 8) 9 #[false, false, false, false, false, false, false, false, false] (by kernel_rfl) rfl rfl ?_
      have HF := hide (And.intro (HB.out.drew) (And.intro (IX0.out.drew) (RX.out.drew)))
      generalize w2.drew = w2d at *
      refine Calm.takeL 9 (i := 0) (v := ?_) (a' := ?_) (l' := #[true, false, false, false, false, false, false, false, false]) (d := some 46) (by kernel_rfl) rfl (by kernel_rfl) (by kernel_rfl) (by kernel_rfl) (by kernel_rfl) (fun _ _ _ h => h) HF.out rfl ?_ rfl rfl ?_ ?_
      rotate_left
      · intro w' hF; clear hF; go_simp; try rfl
      rotate_left
      · simp only [Act.put]; exact rfl
      refine Calm.takeL 9 (i := 1) (v := ?_) (a' := ?_) (l' := #[true, true, false, false, false, false, false, false, false]) (d := some 47) (by kernel_rfl) rfl (by kernel_rfl) (by kernel_rfl) (by kernel_rfl) (by kernel_rfl) (fun _ _ _ h => h) HF.out rfl ?_ rfl rfl ?_ ?_
      rotate_left
      · intro w' hF; have f10 := hF.2.1.cells.cell0; have f11 := hF.2.1.cells.cell1; have f12 := hF.2.1.cells.cell2; have f13 := hF.2.1.cells.cell3; have f14 := hF.2.1.cells.cell4; simp only [Nat.zero_add] at f11 f12 f13 f14; have f20 := hF.2.2.cells.cell0; have f21 := hF.2.2.cells.cell1; have f22 := hF.2.2.cells.cell2; have f23 := hF.2.2.cells.cell3; have f24 := hF.2.2.cells.cell4; simp only [Nat.zero_add] at f21 f22 f23 f24; clear hF; go_simp; try rfl
      rotate_left
      · simp only [Act.put]; exact rfl
      refine Calm.takeL 9 (i := 2) (v := ?_) (a' := ?_) (l' := #[true, true, true, false, false, false, false, false, false]) (d := some 48) (by kernel_rfl) rfl (by kernel_rfl) (by kernel_rfl) (by kernel_rfl) (by kernel_rfl) (fun _ _ _ h => h) HF.out rfl ?_ rfl rfl ?_ ?_
      rotate_left
      · intro w' hF; clear hF; go_simp; try rfl
      rotate_left
      · simp only [Act.put]; exact rfl
      refine Calm.takeL 9 (i := 3) (v := ?_) (a' := ?_) (l' := #[true, true, true, true, false, false, false, false, false]) (d := some 49) (by kernel_rfl) rfl (by kernel_rfl) (by kernel_rfl) (by kernel_rfl) (by kernel_rfl) (fun _ _ _ h => h) HF.out rfl ?_ rfl rfl ?_ ?_
      rotate_left
      · intro w' hF; have f10 := hF.2.1.cells.cell0; have f11 := hF.2.1.cells.cell1; have f12 := hF.2.1.cells.cell2; have f13 := hF.2.1.cells.cell3; have f14 := hF.2.1.cells.cell4; simp only [Nat.zero_add] at f11 f12 f13 f14; have f20 := hF.2.2.cells.cell0; have f21 := hF.2.2.cells.cell1; have f22 := hF.2.2.cells.cell2; have f23 := hF.2.2.cells.cell3; have f24 := hF.2.2.cells.cell4; simp only [Nat.zero_add] at f21 f22 f23 f24; clear hF; go_simp; try rfl
      rotate_left
      · simp only [Act.put]; exact rfl
      refine Calm.takeL 9 (i := 4) (v := ?_) (a' := ?_) (l' := #[true, true, true, true, true, false, false, false, false]) (d := some 50) (by kernel_rfl) rfl (by kernel_rfl) (by kernel_rfl) (by kernel_rfl) (by kernel_rfl) (fun _ _ _ h => h) HF.out rfl ?_ rfl rfl ?_ ?_
      rotate_left
      · intro w' hF; clear hF; go_simp; try rfl
      rotate_left
      · simp only [Act.put]; exact rfl
      refine Calm.takeL 9 (i := 5) (v := ?_) (a' := ?_) (l' := #[true, true, true, true, true, true, false, false, false]) (d := some 51) (by kernel_rfl) rfl (by kernel_rfl) (by kernel_rfl) (by kernel_rfl) (by kernel_rfl) (fun _ _ _ h => h) HF.out rfl ?_ rfl rfl ?_ ?_
      rotate_left
      · intro w' hF; have f10 := hF.2.1.cells.cell0; have f11 := hF.2.1.cells.cell1; have f12 := hF.2.1.cells.cell2; have f13 := hF.2.1.cells.cell3; have f14 := hF.2.1.cells.cell4; simp only [Nat.zero_add] at f11 f12 f13 f14; have f20 := hF.2.2.cells.cell0; have f21 := hF.2.2.cells.cell1; have f22 := hF.2.2.cells.cell2; have f23 := hF.2.2.cells.cell3; have f24 := hF.2.2.cells.cell4; simp only [Nat.zero_add] at f21 f22 f23 f24; clear hF; go_simp; try rfl
      rotate_left
      · simp only [Act.put]; exact rfl
      refine Calm.one (i := 6) (l' := #[true, true, true, true, true, true, true, false, false]) (by kernel_rfl) rfl rfl rfl fun K hK => ?_
      go_simp
      refine (rpow_anyB c _ c0 c1).mono ?_
      rintro e u1 ⟨rfl, hb⟩
      have HF' := hide (And.intro (HF.out.1.trans ((hb).mono HF.out.1.size)) (And.intro (HF.out.2.1.step (hb)) (HF.out.2.2.step (hb))))
      refine hK _ _ (fun _ => HF'.out) ?_
      clear hK K HF hb
      have HF := hide HF'.out
      clear HF'
      refine Calm.takeL 9 (i := 7) (v := ?_) (a' := ?_) (l' := #[true, true, true, true, true, true, true, true, false]) (d := some 53) (by kernel_rfl) rfl (by kernel_rfl) (by kernel_rfl) (by kernel_rfl) (by kernel_rfl) (fun _ _ _ h => h) HF.out rfl ?_ rfl rfl ?_ ?_
      rotate_left
      · intro w' hF; clear hF; go_simp; try rfl
      rotate_left
      · simp only [Act.put]; exact rfl
      refine Calm.one (i := 8) (l' := #[true, true, true, true, true, true, true, true, true]) (by kernel_rfl) rfl rfl rfl fun K hK => ?_
      have RX := hide HF.out.2.2
      have HW := hide HF.out.1
      have r0 := RX.out.cells.cell0
      have r1 := RX.out.cells.cell1
      have r2 := RX.out.cells.cell2
      have r3 := RX.out.cells.cell3
      have r4 := RX.out.cells.cell4
      simp only [Nat.zero_add] at r1 r2 r3 r4
      have f0 := RX.out.free 0
      have f1 := RX.out.free 1
      have f2 := RX.out.free 2
      have f3 := RX.out.free 3
      have f4 := RX.out.free 4
      go_simp
      refine hK _ _ (fun h => absurd h (by decide)) ?_
      clear hK K
      refine Calm.done (by kernel_rfl) ?_
      clear r0 r1 r2 r3 r4 f0 f1 f2 f3 f4
      go_wp2
      refine ret_ins rfl R ⟨7, to, a, 0, p2 c⟩ rfl (RX.out.put ⟨7, to, a, 0, p2 c⟩) rfl ⟨rfl, ?_⟩
      exact below_put5 HW.out (by have := ZR.out; omega) _ _ _ _ _
    · rw [show plI ⟨5, to, a, b, c⟩ = ⟨5, to, a, b, c⟩ by unfold plI; simp [e1, e2, e3]]
      dsimp only
      have e4 : p2 c = 0 := by have := p2_bounds c; omega
      go_enter Tryd.func23, Tryd.ntmps23
      go_upto_region 1 with fail
      have b1 := below_alloc w (.cells #[.int .i64 5, .int .i64 to, .int .i64 a, .int .i64 b, .int .i64 c] 24)
      have b2 := below_alloc (w.alloc (.cells #[.int .i64 5, .int .i64 to, .int .i64 a, .int .i64 b, .int .i64 c] 24)) (.cells #[.int .i64 0, .int .i64 0, .int .i64 0, .int .i64 0, .int .i64 0] 24)
      have IX0 := ((Box5.new w 24 ⟨5, to, a, b, c⟩).step b2)
      replace IX0 : Hid (Box5 ((w.alloc (.cells #[.int .i64 5, .int .i64 to, .int .i64 a, .int .i64 b, .int .i64 c] 24)).alloc (.cells #[.int .i64 0, .int .i64 0, .int .i64 0, .int .i64 0, .int .i64 0] 24)) (w.heap.size) 24 ⟨5, to, a, b, c⟩) := hide IX0
      have RX := (Box5.new (w.alloc (.cells #[.int .i64 5, .int .i64 to, .int .i64 a, .int .i64 b, .int .i64 c] 24)) 24 ⟨0, 0, 0, 0, 0⟩)
      simp only [World.size_alloc] at RX
      replace RX : Hid (Box5 ((w.alloc (.cells #[.int .i64 5, .int .i64 to, .int .i64 a, .int .i64 b, .int .i64 c] 24)).alloc (.cells #[.int .i64 0, .int .i64 0, .int .i64 0, .int .i64 0, .int .i64 0] 24)) (w.heap.size + 1) 24 ⟨0, 0, 0, 0, 0⟩) := hide RX
      have HB := hide (b1.trans (b2.mono b1.size))
      clear b1 b2
      generalize (w.alloc (.cells #[.int .i64 5, .int .i64 to, .int .i64 a, .int .i64 b, .int .i64 c] 24)).alloc (.cells #[.int .i64 0, .int .i64 0, .int .i64 0, .int .i64 0, .int .i64 0] 24) = w1 at *
      obtain ⟨R, hR⟩ : ∃ B, B = w.heap.size + 1 := ⟨_, rfl⟩
      have ZR := hide hR
      rw [← hR] at RX ⊢
      clear hR
      obtain ⟨B0, hB0⟩ : ∃ B, B = w.heap.size := ⟨_, rfl⟩
      have ZB0 := hide hB0
      rw [← hB0] at IX0 ⊢
      clear hB0
      have k0 := IX0.out.cells.cell0
      have k1 := IX0.out.cells.cell1
      have k2 := IX0.out.cells.cell2
      have k3 := IX0.out.cells.cell3
      have k4 := IX0.out.cells.cell4
      simp only [Nat.zero_add] at k1 k2 k3 k4
      have q0 := RX.out.cells.cell0
      have q1 := RX.out.cells.cell1
      have q2 := RX.out.cells.cell2
      have q3 := RX.out.cells.cell3
      have q4 := RX.out.cells.cell4
      simp only [Nat.zero_add] at q1 q2 q3 q4
      have f0 := RX.out.free 0
      have f1 := RX.out.free 1
      have f2 := RX.out.free 2
      have f3 := RX.out.free 3
      have f4 := RX.out.free 4
      go_wp2_with fail
      refine (rpow_any c _ c0 c1).mono ?_
      rintro e w2 ⟨rfl, rfl⟩
      rw [e4]
      go_wp2
      refine ret_ins rfl R ⟨5, to, a, b, c⟩ rfl (RX.out.put ⟨5, to, a, b, c⟩) rfl ⟨rfl, ?_⟩
      exact below_put5 HB.out (by have := ZR.out; omega) _ _ _ _ _
  by_cases h6 : op = 6
  · subst h6
    have c0 : -512 ≤ c := by omega
    have c1 : c ≤ 512 := by omega
    clear h0
    by_cases e1 : c = 1
    · subst e1
      rw [show plI ⟨6, to, a, b, 1⟩ = ⟨1, to, a, 0, 0⟩ from rfl]
      dsimp only
      go_enter Tryd.func23, Tryd.ntmps23
      go_upto_region 1 with fail
      have b1 := below_alloc w (.cells #[.int .i64 6, .int .i64 to, .int .i64 a, .int .i64 b, .int .i64 1] 24)
      have b2 := below_alloc (w.alloc (.cells #[.int .i64 6, .int .i64 to, .int .i64 a, .int .i64 b, .int .i64 1] 24)) (.cells #[.int .i64 0, .int .i64 0, .int .i64 0, .int .i64 0, .int .i64 0] 24)
      have IX0 := ((Box5.new w 24 ⟨6, to, a, b, 1⟩).step b2)
      replace IX0 : Hid (Box5 ((w.alloc (.cells #[.int .i64 6, .int .i64 to, .int .i64 a, .int .i64 b, .int .i64 1] 24)).alloc (.cells #[.int .i64 0, .int .i64 0, .int .i64 0, .int .i64 0, .int .i64 0] 24)) (w.heap.size) 24 ⟨6, to, a, b, 1⟩) := hide IX0
      have RX := (Box5.new (w.alloc (.cells #[.int .i64 6, .int .i64 to, .int .i64 a, .int .i64 b, .int .i64 1] 24)) 24 ⟨0, 0, 0, 0, 0⟩)
      simp only [World.size_alloc] at RX
      replace RX : Hid (Box5 ((w.alloc (.cells #[.int .i64 6, .int .i64 to, .int .i64 a, .int .i64 b, .int .i64 1] 24)).alloc (.cells #[.int .i64 0, .int .i64 0, .int .i64 0, .int .i64 0, .int .i64 0] 24)) (w.heap.size + 1) 24 ⟨0, 0, 0, 0, 0⟩) := hide RX
      have HB := hide (b1.trans (b2.mono b1.size))
      clear b1 b2
      generalize (w.alloc (.cells #[.int .i64 6, .int .i64 to, .int .i64 a, .int .i64 b, .int .i64 1] 24)).alloc (.cells #[.int .i64 0, .int .i64 0, .int .i64 0, .int .i64 0, .int .i64 0] 24) = w1 at *
      obtain ⟨R, hR⟩ : ∃ B, B = w.heap.size + 1 := ⟨_, rfl⟩
      have ZR := hide hR
      rw [← hR] at RX ⊢
      clear hR
      obtain ⟨B0, hB0⟩ : ∃ B, B = w.heap.size := ⟨_, rfl⟩
      have ZB0 := hide hB0
      rw [← hB0] at IX0 ⊢
      clear hB0
      have k0 := IX0.out.cells.cell0
      have k1 := IX0.out.cells.cell1
      have k2 := IX0.out.cells.cell2
      have k3 := IX0.out.cells.cell3
      have k4 := IX0.out.cells.cell4
      simp only [Nat.zero_add] at k1 k2 k3 k4
      have q0 := RX.out.cells.cell0
      have q1 := RX.out.cells.cell1
      have q2 := RX.out.cells.cell2
      have q3 := RX.out.cells.cell3
      have q4 := RX.out.cells.cell4
      simp only [Nat.zero_add] at q1 q2 q3 q4
      have f0 := RX.out.free 0
      have f1 := RX.out.free 1
      have f2 := RX.out.free 2
      have f3 := RX.out.free 3
      have f4 := RX.out.free 4
      go_wp2
      refine ret_ins rfl R ⟨1, to, a, 0, 0⟩ rfl (RX.out.put ⟨1, to, a, 0, 0⟩) rfl ⟨rfl, ?_⟩
      exact below_put5 HB.out (by have := ZR.out; omega) _ _ _ _ _
    by_cases e2 : c = -1
    · subst e2
      rw [show plI ⟨6, to, a, b, -1⟩ = ⟨2, to, a, 0, 0⟩ from rfl]
      dsimp only
      go_enter Tryd.func23, Tryd.ntmps23
      go_upto_region 1 with fail
      have b1 := below_alloc w (.cells #[.int .i64 6, .int .i64 to, .int .i64 a, .int .i64 b, .int .i64 (-1)] 24)
      have b2 := below_alloc (w.alloc (.cells #[.int .i64 6, .int .i64 to, .int .i64 a, .int .i64 b, .int .i64 (-1)] 24)) (.cells #[.int .i64 0, .int .i64 0, .int .i64 0, .int .i64 0, .int .i64 0] 24)
      have IX0 := ((Box5.new w 24 ⟨6, to, a, b, (-1)⟩).step b2)
      replace IX0 : Hid (Box5 ((w.alloc (.cells #[.int .i64 6, .int .i64 to, .int .i64 a, .int .i64 b, .int .i64 (-1)] 24)).alloc (.cells #[.int .i64 0, .int .i64 0, .int .i64 0, .int .i64 0, .int .i64 0] 24)) (w.heap.size) 24 ⟨6, to, a, b, (-1)⟩) := hide IX0
      have RX := (Box5.new (w.alloc (.cells #[.int .i64 6, .int .i64 to, .int .i64 a, .int .i64 b, .int .i64 (-1)] 24)) 24 ⟨0, 0, 0, 0, 0⟩)
      simp only [World.size_alloc] at RX
      replace RX : Hid (Box5 ((w.alloc (.cells #[.int .i64 6, .int .i64 to, .int .i64 a, .int .i64 b, .int .i64 (-1)] 24)).alloc (.cells #[.int .i64 0, .int .i64 0, .int .i64 0, .int .i64 0, .int .i64 0] 24)) (w.heap.size + 1) 24 ⟨0, 0, 0, 0, 0⟩) := hide RX
      have HB := hide (b1.trans (b2.mono b1.size))
      clear b1 b2
      generalize (w.alloc (.cells #[.int .i64 6, .int .i64 to, .int .i64 a, .int .i64 b, .int .i64 (-1)] 24)).alloc (.cells #[.int .i64 0, .int .i64 0, .int .i64 0, .int .i64 0, .int .i64 0] 24) = w1 at *
      obtain ⟨R, hR⟩ : ∃ B, B = w.heap.size + 1 := ⟨_, rfl⟩
      have ZR := hide hR
      rw [← hR] at RX ⊢
      clear hR
      obtain ⟨B0, hB0⟩ : ∃ B, B = w.heap.size := ⟨_, rfl⟩
      have ZB0 := hide hB0
      rw [← hB0] at IX0 ⊢
      clear hB0
      have k0 := IX0.out.cells.cell0
      have k1 := IX0.out.cells.cell1
      have k2 := IX0.out.cells.cell2
      have k3 := IX0.out.cells.cell3
      have k4 := IX0.out.cells.cell4
      simp only [Nat.zero_add] at k1 k2 k3 k4
      have q0 := RX.out.cells.cell0
      have q1 := RX.out.cells.cell1
      have q2 := RX.out.cells.cell2
      have q3 := RX.out.cells.cell3
      have q4 := RX.out.cells.cell4
      simp only [Nat.zero_add] at q1 q2 q3 q4
      have f0 := RX.out.free 0
      have f1 := RX.out.free 1
      have f2 := RX.out.free 2
      have f3 := RX.out.free 3
      have f4 := RX.out.free 4
      go_wp2
      refine ret_ins rfl R ⟨2, to, a, 0, 0⟩ rfl (RX.out.put ⟨2, to, a, 0, 0⟩) rfl ⟨rfl, ?_⟩
      exact below_put5 HB.out (by have := ZR.out; omega) _ _ _ _ _
    by_cases e3 : 0 < p2 c
    · rw [show plI ⟨6, to, a, b, c⟩ = ⟨8, to, a, 0, p2 c⟩ by unfold plI; simp [e1, e2, e3]]
      dsimp only
      go_enter Tryd.func23, Tryd.ntmps23
      go_upto_region 1 with fail
      have b1 := below_alloc w (.cells #[.int .i64 6, .int .i64 to, .int .i64 a, .int .i64 b, .int .i64 c] 24)
      have b2 := below_alloc (w.alloc (.cells #[.int .i64 6, .int .i64 to, .int .i64 a, .int .i64 b, .int .i64 c] 24)) (.cells #[.int .i64 0, .int .i64 0, .int .i64 0, .int .i64 0, .int .i64 0] 24)
      have IX0 := ((Box5.new w 24 ⟨6, to, a, b, c⟩).step b2)
      replace IX0 : Hid (Box5 ((w.alloc (.cells #[.int .i64 6, .int .i64 to, .int .i64 a, .int .i64 b, .int .i64 c] 24)).alloc (.cells #[.int .i64 0, .int .i64 0, .int .i64 0, .int .i64 0, .int .i64 0] 24)) (w.heap.size) 24 ⟨6, to, a, b, c⟩) := hide IX0
      have RX := (Box5.new (w.alloc (.cells #[.int .i64 6, .int .i64 to, .int .i64 a, .int .i64 b, .int .i64 c] 24)) 24 ⟨0, 0, 0, 0, 0⟩)
      simp only [World.size_alloc] at RX
      replace RX : Hid (Box5 ((w.alloc (.cells #[.int .i64 6, .int .i64 to, .int .i64 a, .int .i64 b, .int .i64 c] 24)).alloc (.cells #[.int .i64 0, .int .i64 0, .int .i64 0, .int .i64 0, .int .i64 0] 24)) (w.heap.size + 1) 24 ⟨0, 0, 0, 0, 0⟩) := hide RX
      have HB := hide (b1.trans (b2.mono b1.size))
      clear b1 b2
      generalize (w.alloc (.cells #[.int .i64 6, .int .i64 to, .int .i64 a, .int .i64 b, .int .i64 c] 24)).alloc (.cells #[.int .i64 0, .int .i64 0, .int .i64 0, .int .i64 0, .int .i64 0] 24) = w1 at *
      obtain ⟨R, hR⟩ : ∃ B, B = w.heap.size + 1 := ⟨_, rfl⟩
      have ZR := hide hR
      rw [← hR] at RX ⊢
      clear hR
      obtain ⟨B0, hB0⟩ : ∃ B, B = w.heap.size := ⟨_, rfl⟩
      have ZB0 := hide hB0
      rw [← hB0] at IX0 ⊢
      clear hB0
      have k0 := IX0.out.cells.cell0
      have k1 := IX0.out.cells.cell1
      have k2 := IX0.out.cells.cell2
      have k3 := IX0.out.cells.cell3
      have k4 := IX0.out.cells.cell4
      simp only [Nat.zero_add] at k1 k2 k3 k4
      have q0 := RX.out.cells.cell0
      have q1 := RX.out.cells.cell1
      have q2 := RX.out.cells.cell2
      have q3 := RX.out.cells.cell3
      have q4 := RX.out.cells.cell4
      simp only [Nat.zero_add] at q1 q2 q3 q4
      have f0 := RX.out.free 0
      have f1 := RX.out.free 1
      have f2 := RX.out.free 2
      have f3 := RX.out.free 3
      have f4 := RX.out.free 4
      go_wp2_with fail
      refine (rpow_any c _ c0 c1).mono ?_
      rintro e w2 ⟨rfl, rfl⟩
      go_upto_region 9 with fail
      clear k0 k1 k2 k3 k4 q0 q1 q2 q3 q4 f0 f1 f2 f3 f4
      refine wp_calm (fun w' => Below w.heap.size w w' ∧ Box5 w' B0 24 ⟨6, to, a, b, c⟩ ∧ Box5 w' R 24 ⟨0, 0, 0, 0, 0⟩) (fun j => j != 8) 9 #[false, false, false, false, false, false, false, false, false] (by kernel_rfl) rfl rfl ?_
      have HF := hide (And.intro (HB.out.drew) (And.intro (IX0.out.drew) (RX.out.drew)))
      generalize w2.drew = w2d at *
      refine Calm.takeL 9 (i := 0) (v := ?_) (a' := ?_) (l' := #[true, false, false, false, false, false, false, false, false]) (d := some 64) (by kernel_rfl) rfl (by kernel_rfl) (by kernel_rfl) (by kernel_rfl) (by kernel_rfl) (fun _ _ _ h => h) HF.out rfl ?_ rfl rfl ?_ ?_
      rotate_left
      · intro w' hF; clear hF; go_simp; try rfl
      rotate_left
      · simp only [Act.put]; exact rfl
      refine Calm.takeL 9 (i := 1) (v := ?_) (a' := ?_) (l' := #[true, true, false, false, false, false, false, false, false]) (d := some 65) (by kernel_rfl) rfl (by kernel_rfl) (by kernel_rfl) (by kernel_rfl) (by kernel_rfl) (fun _ _ _ h => h) HF.out rfl ?_ rfl rfl ?_ ?_
      rotate_left
      · intro w' hF; have f10 := hF.2.1.cells.cell0; have f11 := hF.2.1.cells.cell1; have f12 := hF.2.1.cells.cell2; have f13 := hF.2.1.cells.cell3; have f14 := hF.2.1.cells.cell4; simp only [Nat.zero_add] at f11 f12 f13 f14; have f20 := hF.2.2.cells.cell0; have f21 := hF.2.2.cells.cell1; have f22 := hF.2.2.cells.cell2; have f23 := hF.2.2.cells.cell3; have f24 := hF.2.2.cells.cell4; simp only [Nat.zero_add] at f21 f22 f23 f24; clear hF; go_simp; try rfl
      rotate_left
      · simp only [Act.put]; exact rfl
      refine Calm.takeL 9 (i := 2) (v := ?_) (a' := ?_) (l' := #[true, true, true, false, false, false, false, false, false]) (d := some 66) (by kernel_rfl) rfl (by kernel_rfl) (by kernel_rfl) (by kernel_rfl) (by kernel_rfl) (fun _ _ _ h => h) HF.out rfl ?_ rfl rfl ?_ ?_
      rotate_left
      · intro w' hF; clear hF; go_simp; try rfl
      rotate_left
      · simp only [Act.put]; exact rfl
      refine Calm.takeL 9 (i := 3) (v := ?_) (a' := ?_) (l' := #[true, true, true, true, false, false, false, false, false]) (d := some 67) (by kernel_rfl) rfl (by kernel_rfl) (by kernel_rfl) (by kernel_rfl) (by kernel_rfl) (fun _ _ _ h => h) HF.out rfl ?_ rfl rfl ?_ ?_
      rotate_left
      · intro w' hF; have f10 := hF.2.1.cells.cell0; have f11 := hF.2.1.cells.cell1; have f12 := hF.2.1.cells.cell2; have f13 := hF.2.1.cells.cell3; have f14 := hF.2.1.cells.cell4; simp only [Nat.zero_add] at f11 f12 f13 f14; have f20 := hF.2.2.cells.cell0; have f21 := hF.2.2.cells.cell1; have f22 := hF.2.2.cells.cell2; have f23 := hF.2.2.cells.cell3; have f24 := hF.2.2.cells.cell4; simp only [Nat.zero_add] at f21 f22 f23 f24; clear hF; go_simp; try rfl
      rotate_left
      · simp only [Act.put]; exact rfl
      refine Calm.takeL 9 (i := 4) (v := ?_) (a' := ?_) (l' := #[true, true, true, true, true, false, false, false, false]) (d := some 68) (by kernel_rfl) rfl (by kernel_rfl) (by kernel_rfl) (by kernel_rfl) (by kernel_rfl) (fun _ _ _ h => h) HF.out rfl ?_ rfl rfl ?_ ?_
      rotate_left
      · intro w' hF; clear hF; go_simp; try rfl
      rotate_left
      · simp only [Act.put]; exact rfl
      refine Calm.takeL 9 (i := 5) (v := ?_) (a' := ?_) (l' := #[true, true, true, true, true, true, false, false, false]) (d := some 69) (by kernel_rfl) rfl (by kernel_rfl) (by kernel_rfl) (by kernel_rfl) (by kernel_rfl) (fun _ _ _ h => h) HF.out rfl ?_ rfl rfl ?_ ?_
      rotate_left
      · intro w' hF; have f10 := hF.2.1.cells.cell0; have f11 := hF.2.1.cells.cell1; have f12 := hF.2.1.cells.cell2; have f13 := hF.2.1.cells.cell3; have f14 := hF.2.1.cells.cell4; simp only [Nat.zero_add] at f11 f12 f13 f14; have f20 := hF.2.2.cells.cell0; have f21 := hF.2.2.cells.cell1; have f22 := hF.2.2.cells.cell2; have f23 := hF.2.2.cells.cell3; have f24 := hF.2.2.cells.cell4; simp only [Nat.zero_add] at f21 f22 f23 f24; clear hF; go_simp; try rfl
      rotate_left
      · simp only [Act.put]; exact rfl
      refine Calm.one (i := 6) (l' := #[true, true, true, true, true, true, true, false, false]) (by kernel_rfl) rfl rfl rfl fun K hK => ?_
      go_simp
      refine (rpow_anyB c _ c0 c1).mono ?_
      rintro e u1 ⟨rfl, hb⟩
      have HF' := hide (And.intro (HF.out.1.trans ((hb).mono HF.out.1.size)) (And.intro (HF.out.2.1.step (hb)) (HF.out.2.2.step (hb))))
      refine hK _ _ (fun _ => HF'.out) ?_
      clear hK K HF hb
      have HF := hide HF'.out
      clear HF'
      refine Calm.takeL 9 (i := 7) (v := ?_) (a' := ?_) (l' := #[true, true, true, true, true, true, true, true, false]) (d := some 71) (by kernel_rfl) rfl (by kernel_rfl) (by kernel_rfl) (by kernel_rfl) (by kernel_rfl) (fun _ _ _ h => h) HF.out rfl ?_ rfl rfl ?_ ?_
      rotate_left
      · intro w' hF; clear hF; go_simp; try rfl
      rotate_left
      · simp only [Act.put]; exact rfl
      refine Calm.one (i := 8) (l' := #[true, true, true, true, true, true, true, true, true]) (by kernel_rfl) rfl rfl rfl fun K hK => ?_
      have RX := hide HF.out.2.2
      have HW := hide HF.out.1
      have r0 := RX.out.cells.cell0
      have r1 := RX.out.cells.cell1
      have r2 := RX.out.cells.cell2
      have r3 := RX.out.cells.cell3
      have r4 := RX.out.cells.cell4
      simp only [Nat.zero_add] at r1 r2 r3 r4
      have f0 := RX.out.free 0
      have f1 := RX.out.free 1
      have f2 := RX.out.free 2
      have f3 := RX.out.free 3
      have f4 := RX.out.free 4
      go_simp
      refine hK _ _ (fun h => absurd h (by decide)) ?_
      clear hK K
      refine Calm.done (by kernel_rfl) ?_
      clear r0 r1 r2 r3 r4 f0 f1 f2 f3 f4
      go_wp2
      refine ret_ins rfl R ⟨8, to, a, 0, p2 c⟩ rfl (RX.out.put ⟨8, to, a, 0, p2 c⟩) rfl ⟨rfl, ?_⟩
      exact below_put5 HW.out (by have := ZR.out; omega) _ _ _ _ _
    · rw [show plI ⟨6, to, a, b, c⟩ = ⟨6, to, a, b, c⟩ by unfold plI; simp [e1, e2, e3]]
      dsimp only
      have e4 : p2 c = 0 := by have := p2_bounds c; omega
      go_enter Tryd.func23, Tryd.ntmps23
      go_upto_region 1 with fail
      have b1 := below_alloc w (.cells #[.int .i64 6, .int .i64 to, .int .i64 a, .int .i64 b, .int .i64 c] 24)
      have b2 := below_alloc (w.alloc (.cells #[.int .i64 6, .int .i64 to, .int .i64 a, .int .i64 b, .int .i64 c] 24)) (.cells #[.int .i64 0, .int .i64 0, .int .i64 0, .int .i64 0, .int .i64 0] 24)
      have IX0 := ((Box5.new w 24 ⟨6, to, a, b, c⟩).step b2)
      replace IX0 : Hid (Box5 ((w.alloc (.cells #[.int .i64 6, .int .i64 to, .int .i64 a, .int .i64 b, .int .i64 c] 24)).alloc (.cells #[.int .i64 0, .int .i64 0, .int .i64 0, .int .i64 0, .int .i64 0] 24)) (w.heap.size) 24 ⟨6, to, a, b, c⟩) := hide IX0
      have RX := (Box5.new (w.alloc (.cells #[.int .i64 6, .int .i64 to, .int .i64 a, .int .i64 b, .int .i64 c] 24)) 24 ⟨0, 0, 0, 0, 0⟩)
      simp only [World.size_alloc] at RX
      replace RX : Hid (Box5 ((w.alloc (.cells #[.int .i64 6, .int .i64 to, .int .i64 a, .int .i64 b, .int .i64 c] 24)).alloc (.cells #[.int .i64 0, .int .i64 0, .int .i64 0, .int .i64 0, .int .i64 0] 24)) (w.heap.size + 1) 24 ⟨0, 0, 0, 0, 0⟩) := hide RX
      have HB := hide (b1.trans (b2.mono b1.size))
      clear b1 b2
      generalize (w.alloc (.cells #[.int .i64 6, .int .i64 to, .int .i64 a, .int .i64 b, .int .i64 c] 24)).alloc (.cells #[.int .i64 0, .int .i64 0, .int .i64 0, .int .i64 0, .int .i64 0] 24) = w1 at *
      obtain ⟨R, hR⟩ : ∃ B, B = w.heap.size + 1 := ⟨_, rfl⟩
      have ZR := hide hR
      rw [← hR] at RX ⊢
      clear hR
      obtain ⟨B0, hB0⟩ : ∃ B, B = w.heap.size := ⟨_, rfl⟩
      have ZB0 := hide hB0
      rw [← hB0] at IX0 ⊢
      clear hB0
      have k0 := IX0.out.cells.cell0
      have k1 := IX0.out.cells.cell1
      have k2 := IX0.out.cells.cell2
      have k3 := IX0.out.cells.cell3
      have k4 := IX0.out.cells.cell4
      simp only [Nat.zero_add] at k1 k2 k3 k4
      have q0 := RX.out.cells.cell0
      have q1 := RX.out.cells.cell1
      have q2 := RX.out.cells.cell2
      have q3 := RX.out.cells.cell3
      have q4 := RX.out.cells.cell4
      simp only [Nat.zero_add] at q1 q2 q3 q4
      have f0 := RX.out.free 0
      have f1 := RX.out.free 1
      have f2 := RX.out.free 2
      have f3 := RX.out.free 3
      have f4 := RX.out.free 4
      go_wp2_with fail
      refine (rpow_any c _ c0 c1).mono ?_
      rintro e w2 ⟨rfl, rfl⟩
      rw [e4]
      go_wp2
      refine ret_ins rfl R ⟨6, to, a, b, c⟩ rfl (RX.out.put ⟨6, to, a, b, c⟩) rfl ⟨rfl, ?_⟩
      exact below_put5 HB.out (by have := ZR.out; omega) _ _ _ _ _
  by_cases h3 : op = 3
  · subst h3
    by_cases h4 : a = b
    · subst h4
      rw [show plI ⟨3, to, a, a, c⟩ = ⟨7, to, a, 0, 1⟩ by unfold plI; simp]
      dsimp only
      go_enter Tryd.func23, Tryd.ntmps23
      go_upto_region 1 with fail
      have b1 := below_alloc w (.cells #[.int .i64 3, .int .i64 to, .int .i64 a, .int .i64 a, .int .i64 c] 24)
      have b2 := below_alloc (w.alloc (.cells #[.int .i64 3, .int .i64 to, .int .i64 a, .int .i64 a, .int .i64 c] 24)) (.cells #[.int .i64 0, .int .i64 0, .int .i64 0, .int .i64 0, .int .i64 0] 24)
      have IX0 := ((Box5.new w 24 ⟨3, to, a, a, c⟩).step b2)
      replace IX0 : Hid (Box5 ((w.alloc (.cells #[.int .i64 3, .int .i64 to, .int .i64 a, .int .i64 a, .int .i64 c] 24)).alloc (.cells #[.int .i64 0, .int .i64 0, .int .i64 0, .int .i64 0, .int .i64 0] 24)) (w.heap.size) 24 ⟨3, to, a, a, c⟩) := hide IX0
      have RX := (Box5.new (w.alloc (.cells #[.int .i64 3, .int .i64 to, .int .i64 a, .int .i64 a, .int .i64 c] 24)) 24 ⟨0, 0, 0, 0, 0⟩)
      simp only [World.size_alloc] at RX
      replace RX : Hid (Box5 ((w.alloc (.cells #[.int .i64 3, .int .i64 to, .int .i64 a, .int .i64 a, .int .i64 c] 24)).alloc (.cells #[.int .i64 0, .int .i64 0, .int .i64 0, .int .i64 0, .int .i64 0] 24)) (w.heap.size + 1) 24 ⟨0, 0, 0, 0, 0⟩) := hide RX
      have HB := hide (b1.trans (b2.mono b1.size))
      clear b1 b2
      generalize (w.alloc (.cells #[.int .i64 3, .int .i64 to, .int .i64 a, .int .i64 a, .int .i64 c] 24)).alloc (.cells #[.int .i64 0, .int .i64 0, .int .i64 0, .int .i64 0, .int .i64 0] 24) = w1 at *
      obtain ⟨R, hR⟩ : ∃ B, B = w.heap.size + 1 := ⟨_, rfl⟩
      have ZR := hide hR
      rw [← hR] at RX ⊢
      clear hR
      obtain ⟨B0, hB0⟩ : ∃ B, B = w.heap.size := ⟨_, rfl⟩
      have ZB0 := hide hB0
      rw [← hB0] at IX0 ⊢
      clear hB0
      have k0 := IX0.out.cells.cell0
      have k1 := IX0.out.cells.cell1
      have k2 := IX0.out.cells.cell2
      have k3 := IX0.out.cells.cell3
      have k4 := IX0.out.cells.cell4
      simp only [Nat.zero_add] at k1 k2 k3 k4
      have q0 := RX.out.cells.cell0
      have q1 := RX.out.cells.cell1
      have q2 := RX.out.cells.cell2
      have q3 := RX.out.cells.cell3
      have q4 := RX.out.cells.cell4
      simp only [Nat.zero_add] at q1 q2 q3 q4
      have f0 := RX.out.free 0
      have f1 := RX.out.free 1
      have f2 := RX.out.free 2
      have f3 := RX.out.free 3
      have f4 := RX.out.free 4
      go_wp2
      refine ret_ins rfl R ⟨7, to, a, 0, 1⟩ rfl (RX.out.put ⟨7, to, a, 0, 1⟩) rfl ⟨rfl, ?_⟩
      exact below_put5 HB.out (by have := ZR.out; omega) _ _ _ _ _
    · rw [show plI ⟨3, to, a, b, c⟩ = ⟨3, to, a, b, c⟩ by unfold plI; simp [h4]]
      dsimp only
      go_enter Tryd.func23, Tryd.ntmps23
      go_upto_region 1 with fail
      have b1 := below_alloc w (.cells #[.int .i64 3, .int .i64 to, .int .i64 a, .int .i64 b, .int .i64 c] 24)
      have b2 := below_alloc (w.alloc (.cells #[.int .i64 3, .int .i64 to, .int .i64 a, .int .i64 b, .int .i64 c] 24)) (.cells #[.int .i64 0, .int .i64 0, .int .i64 0, .int .i64 0, .int .i64 0] 24)
      have IX0 := ((Box5.new w 24 ⟨3, to, a, b, c⟩).step b2)
      replace IX0 : Hid (Box5 ((w.alloc (.cells #[.int .i64 3, .int .i64 to, .int .i64 a, .int .i64 b, .int .i64 c] 24)).alloc (.cells #[.int .i64 0, .int .i64 0, .int .i64 0, .int .i64 0, .int .i64 0] 24)) (w.heap.size) 24 ⟨3, to, a, b, c⟩) := hide IX0
      have RX := (Box5.new (w.alloc (.cells #[.int .i64 3, .int .i64 to, .int .i64 a, .int .i64 b, .int .i64 c] 24)) 24 ⟨0, 0, 0, 0, 0⟩)
      simp only [World.size_alloc] at RX
      replace RX : Hid (Box5 ((w.alloc (.cells #[.int .i64 3, .int .i64 to, .int .i64 a, .int .i64 b, .int .i64 c] 24)).alloc (.cells #[.int .i64 0, .int .i64 0, .int .i64 0, .int .i64 0, .int .i64 0] 24)) (w.heap.size + 1) 24 ⟨0, 0, 0, 0, 0⟩) := hide RX
      have HB := hide (b1.trans (b2.mono b1.size))
      clear b1 b2
      generalize (w.alloc (.cells #[.int .i64 3, .int .i64 to, .int .i64 a, .int .i64 b, .int .i64 c] 24)).alloc (.cells #[.int .i64 0, .int .i64 0, .int .i64 0, .int .i64 0, .int .i64 0] 24) = w1 at *
      obtain ⟨R, hR⟩ : ∃ B, B = w.heap.size + 1 := ⟨_, rfl⟩
      have ZR := hide hR
      rw [← hR] at RX ⊢
      clear hR
      obtain ⟨B0, hB0⟩ : ∃ B, B = w.heap.size := ⟨_, rfl⟩
      have ZB0 := hide hB0
      rw [← hB0] at IX0 ⊢
      clear hB0
      have k0 := IX0.out.cells.cell0
      have k1 := IX0.out.cells.cell1
      have k2 := IX0.out.cells.cell2
      have k3 := IX0.out.cells.cell3
      have k4 := IX0.out.cells.cell4
      simp only [Nat.zero_add] at k1 k2 k3 k4
      have q0 := RX.out.cells.cell0
      have q1 := RX.out.cells.cell1
      have q2 := RX.out.cells.cell2
      have q3 := RX.out.cells.cell3
      have q4 := RX.out.cells.cell4
      simp only [Nat.zero_add] at q1 q2 q3 q4
      have f0 := RX.out.free 0
      have f1 := RX.out.free 1
      have f2 := RX.out.free 2
      have f3 := RX.out.free 3
      have f4 := RX.out.free 4
      go_wp2
      refine ret_ins rfl R ⟨3, to, a, b, c⟩ rfl (RX.out.put ⟨3, to, a, b, c⟩) rfl ⟨rfl, ?_⟩
      exact below_put5 HB.out (by have := ZR.out; omega) _ _ _ _ _
  · rw [show plI ⟨op, to, a, b, c⟩ = ⟨op, to, a, b, c⟩ by unfold plI; simp [h5, h6, h3]]
    dsimp only
    go_enter Tryd.func23, Tryd.ntmps23
    go_upto_region 1 with fail
    have b1 := below_alloc w (.cells #[.int .i64 op, .int .i64 to, .int .i64 a, .int .i64 b, .int .i64 c] 24)
    have b2 := below_alloc (w.alloc (.cells #[.int .i64 op, .int .i64 to, .int .i64 a, .int .i64 b, .int .i64 c] 24)) (.cells #[.int .i64 0, .int .i64 0, .int .i64 0, .int .i64 0, .int .i64 0] 24)
    have IX0 := ((Box5.new w 24 ⟨op, to, a, b, c⟩).step b2)
    replace IX0 : Hid (Box5 ((w.alloc (.cells #[.int .i64 op, .int .i64 to, .int .i64 a, .int .i64 b, .int .i64 c] 24)).alloc (.cells #[.int .i64 0, .int .i64 0, .int .i64 0, .int .i64 0, .int .i64 0] 24)) (w.heap.size) 24 ⟨op, to, a, b, c⟩) := hide IX0
    have RX := (Box5.new (w.alloc (.cells #[.int .i64 op, .int .i64 to, .int .i64 a, .int .i64 b, .int .i64 c] 24)) 24 ⟨0, 0, 0, 0, 0⟩)
    simp only [World.size_alloc] at RX
    replace RX : Hid (Box5 ((w.alloc (.cells #[.int .i64 op, .int .i64 to, .int .i64 a, .int .i64 b, .int .i64 c] 24)).alloc (.cells #[.int .i64 0, .int .i64 0, .int .i64 0, .int .i64 0, .int .i64 0] 24)) (w.heap.size + 1) 24 ⟨0, 0, 0, 0, 0⟩) := hide RX
    have HB := hide (b1.trans (b2.mono b1.size))
    clear b1 b2
    generalize (w.alloc (.cells #[.int .i64 op, .int .i64 to, .int .i64 a, .int .i64 b, .int .i64 c] 24)).alloc (.cells #[.int .i64 0, .int .i64 0, .int .i64 0, .int .i64 0, .int .i64 0] 24) = w1 at *
    obtain ⟨R, hR⟩ : ∃ B, B = w.heap.size + 1 := ⟨_, rfl⟩
    have ZR := hide hR
    rw [← hR] at RX ⊢
    clear hR
    obtain ⟨B0, hB0⟩ : ∃ B, B = w.heap.size := ⟨_, rfl⟩
    have ZB0 := hide hB0
    rw [← hB0] at IX0 ⊢
    clear hB0
    have k0 := IX0.out.cells.cell0
    have k1 := IX0.out.cells.cell1
    have k2 := IX0.out.cells.cell2
    have k3 := IX0.out.cells.cell3
    have k4 := IX0.out.cells.cell4
    simp only [Nat.zero_add] at k1 k2 k3 k4
    have q0 := RX.out.cells.cell0
    have q1 := RX.out.cells.cell1
    have q2 := RX.out.cells.cell2
    have q3 := RX.out.cells.cell3
    have q4 := RX.out.cells.cell4
    simp only [Nat.zero_add] at q1 q2 q3 q4
    have f0 := RX.out.free 0
    have f1 := RX.out.free 1
    have f2 := RX.out.free 2
    have f3 := RX.out.free 3
    have f4 := RX.out.free 4
    go_wp2
    refine ret_ins rfl R ⟨op, to, a, b, c⟩ rfl (RX.out.put ⟨op, to, a, b, c⟩) rfl ⟨rfl, ?_⟩
    exact below_put5 HB.out (by have := ZR.out; omega) _ _ _ _ _
set_option maxRecDepth 100000 in
set_option maxHeartbeats 8000000 in
theorem rout_any (i j : Ins) (op c : Int) (w : World) (hm : mayB ⟨op, j.to, i.a, 0, c⟩ 128 = true) :
    Calls Tryd.prog 38 #[.agg #[.int .i64 i.op, .int .i64 i.to, .int .i64 i.a, .int .i64 i.b, .int .i64 i.c], .agg #[.int .i64 j.op, .int .i64 j.to, .int .i64 j.a, .int .i64 j.b, .int .i64 j.c], .int .i64 op, .int .i64 c] w fun e w' => e = .returned (.tuple #[.agg #[.int .i64 (plI ⟨op, j.to, i.a, 0, c⟩).op, .int .i64 (plI ⟨op, j.to, i.a, 0, c⟩).to, .int .i64 (plI ⟨op, j.to, i.a, 0, c⟩).a, .int .i64 (plI ⟨op, j.to, i.a, 0, c⟩).b, .int .i64 (plI ⟨op, j.to, i.a, 0, c⟩).c], .bool true]) ∧ Below w.heap.size w w' := by
  obtain ⟨ao, t1, aa, ab, ac⟩ := i
  obtain ⟨bo, t2, ba, bb, bc⟩ := j
  dsimp only at hm ⊢
  have HM := hide hm
  clear hm
  go_enter Tryd.func38, Tryd.ntmps38
  go_upto_region 1 with fail
  have b1 := below_alloc w (.cells #[.int .i64 ao, .int .i64 t1, .int .i64 aa, .int .i64 ab, .int .i64 ac] 24)
  have b2 := below_alloc (w.alloc (.cells #[.int .i64 ao, .int .i64 t1, .int .i64 aa, .int .i64 ab, .int .i64 ac] 24)) (.cells #[.int .i64 bo, .int .i64 t2, .int .i64 ba, .int .i64 bb, .int .i64 bc] 24)
  have b3 := below_alloc ((w.alloc (.cells #[.int .i64 ao, .int .i64 t1, .int .i64 aa, .int .i64 ab, .int .i64 ac] 24)).alloc (.cells #[.int .i64 bo, .int .i64 t2, .int .i64 ba, .int .i64 bb, .int .i64 bc] 24)) (.cells #[.int .i64 0, .int .i64 0, .int .i64 0, .int .i64 0, .int .i64 0] 24)
  have IX0 := (((Box5.new w 24 ⟨ao, t1, aa, ab, ac⟩).step b2).step b3)
  replace IX0 : Hid (Box5 (((w.alloc (.cells #[.int .i64 ao, .int .i64 t1, .int .i64 aa, .int .i64 ab, .int .i64 ac] 24)).alloc (.cells #[.int .i64 bo, .int .i64 t2, .int .i64 ba, .int .i64 bb, .int .i64 bc] 24)).alloc (.cells #[.int .i64 0, .int .i64 0, .int .i64 0, .int .i64 0, .int .i64 0] 24)) (w.heap.size) 24 ⟨ao, t1, aa, ab, ac⟩) := hide IX0
  have IX1 := ((Box5.new (w.alloc (.cells #[.int .i64 ao, .int .i64 t1, .int .i64 aa, .int .i64 ab, .int .i64 ac] 24)) 24 ⟨bo, t2, ba, bb, bc⟩).step b3)
  simp only [World.size_alloc] at IX1
  replace IX1 : Hid (Box5 (((w.alloc (.cells #[.int .i64 ao, .int .i64 t1, .int .i64 aa, .int .i64 ab, .int .i64 ac] 24)).alloc (.cells #[.int .i64 bo, .int .i64 t2, .int .i64 ba, .int .i64 bb, .int .i64 bc] 24)).alloc (.cells #[.int .i64 0, .int .i64 0, .int .i64 0, .int .i64 0, .int .i64 0] 24)) (w.heap.size + 1) 24 ⟨bo, t2, ba, bb, bc⟩) := hide IX1
  have RX := (Box5.new ((w.alloc (.cells #[.int .i64 ao, .int .i64 t1, .int .i64 aa, .int .i64 ab, .int .i64 ac] 24)).alloc (.cells #[.int .i64 bo, .int .i64 t2, .int .i64 ba, .int .i64 bb, .int .i64 bc] 24)) 24 ⟨0, 0, 0, 0, 0⟩)
  simp only [World.size_alloc] at RX
  replace RX : Hid (Box5 (((w.alloc (.cells #[.int .i64 ao, .int .i64 t1, .int .i64 aa, .int .i64 ab, .int .i64 ac] 24)).alloc (.cells #[.int .i64 bo, .int .i64 t2, .int .i64 ba, .int .i64 bb, .int .i64 bc] 24)).alloc (.cells #[.int .i64 0, .int .i64 0, .int .i64 0, .int .i64 0, .int .i64 0] 24)) (w.heap.size + 1 + 1) 24 ⟨0, 0, 0, 0, 0⟩) := hide RX
  have HB := hide ((b1.trans (b2.mono b1.size)).trans (b3.mono (b1.trans (b2.mono b1.size)).size))
  clear b1 b2 b3
  generalize ((w.alloc (.cells #[.int .i64 ao, .int .i64 t1, .int .i64 aa, .int .i64 ab, .int .i64 ac] 24)).alloc (.cells #[.int .i64 bo, .int .i64 t2, .int .i64 ba, .int .i64 bb, .int .i64 bc] 24)).alloc (.cells #[.int .i64 0, .int .i64 0, .int .i64 0, .int .i64 0, .int .i64 0] 24) = w1 at *
  obtain ⟨R, hR⟩ : ∃ B, B = w.heap.size + 1 + 1 := ⟨_, rfl⟩
  have ZR := hide hR
  try rw [show w.heap.size + 2 = w.heap.size + 1 + 1 from rfl]
  rw [← hR] at RX ⊢
  clear hR
  obtain ⟨B1, hB1⟩ : ∃ B, B = w.heap.size + 1 := ⟨_, rfl⟩
  have ZB1 := hide hB1
  rw [← hB1] at IX1 ⊢
  clear hB1
  obtain ⟨B0, hB0⟩ : ∃ B, B = w.heap.size := ⟨_, rfl⟩
  have ZB0 := hide hB0
  rw [← hB0] at IX0 ⊢
  clear hB0
  have k0 := IX0.out.cells.cell0
  have k1 := IX0.out.cells.cell1
  have k2 := IX0.out.cells.cell2
  have k3 := IX0.out.cells.cell3
  have k4 := IX0.out.cells.cell4
  simp only [Nat.zero_add] at k1 k2 k3 k4
  have l0 := IX1.out.cells.cell0
  have l1 := IX1.out.cells.cell1
  have l2 := IX1.out.cells.cell2
  have l3 := IX1.out.cells.cell3
  have l4 := IX1.out.cells.cell4
  simp only [Nat.zero_add] at l1 l2 l3 l4
  have q0 := RX.out.cells.cell0
  have q1 := RX.out.cells.cell1
  have q2 := RX.out.cells.cell2
  have q3 := RX.out.cells.cell3
  have q4 := RX.out.cells.cell4
  simp only [Nat.zero_add] at q1 q2 q3 q4
  have f0 := RX.out.free 0
  have f1 := RX.out.free 1
  have f2 := RX.out.free 2
  have f3 := RX.out.free 3
  have f4 := RX.out.free 4
  go_wp2_with fail
  refine (rplain_any ⟨op, t2, aa, 0, c⟩ _ HM.out).mono ?_
  rintro e w2 ⟨rfl, hb⟩
  replace RX := hide (RX.out.step hb)
  replace HB := hide (HB.out.trans (hb.mono HB.out.size))
  clear hb k0 k1 k2 k3 k4 l0 l1 l2 l3 l4 q0 q1 q2 q3 q4 f0 f1 f2 f3 f4
  have q0 := RX.out.cells.cell0
  have q1 := RX.out.cells.cell1
  have q2 := RX.out.cells.cell2
  have q3 := RX.out.cells.cell3
  have q4 := RX.out.cells.cell4
  simp only [Nat.zero_add] at q1 q2 q3 q4
  have f0 := RX.out.free 0
  have f1 := RX.out.free 1
  have f2 := RX.out.free 2
  have f3 := RX.out.free 3
  have f4 := RX.out.free 4
  go_wp2
  refine ret_insb rfl R (plI ⟨op, t2, aa, 0, c⟩) rfl (RX.out.put (plI ⟨op, t2, aa, 0, c⟩)) rfl ⟨rfl, ?_⟩
  exact below_put5 HB.out (by have := ZR.out; omega) _ _ _ _ _
end Go.Proofs.YtlghhpgnhppoeaaDoor
