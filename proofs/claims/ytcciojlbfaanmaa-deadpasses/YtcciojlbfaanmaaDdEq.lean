/- slices.Equal of truths; slices.Contains where all are true. -/
import Derived.Test.YtcciojlbfaanmaaPgApp
import Derived.Test.YtcciojlbfaanmaaPgSame
namespace Go.Proofs.Ytcciojlbfaanmaa
open Go.RowKit

theorem bools_eq {l m : List Bool} (hl : l.length = m.length) (h : ∀ j, j < l.length → bl l j = bl m j) : l = m := bl_ext hl h
theorem bools_ne {l m : List Bool} {j : Nat} (h : bl l j ≠ bl m j) : l ≠ m := fun e => h (by rw [e])
theorem BoolsAt.at {w : World} {a : Option Addr} {n cap : Nat} {l : List Bool} (h : BoolsAt w (.slice a n cap) l) {k : Nat} (hk : k < l.length) : ∃ b off, a = some ⟨b, off, none⟩ ∧ w.cell? ⟨b, off + k, none⟩ = some (.bool (bl l k)) := by
  obtain ⟨a', c, e, _, _, hne⟩ := h
  simp only [Value.slice.injEq] at e
  obtain ⟨rfl, _, _⟩ := e
  obtain ⟨b, off, e2, hc⟩ := hne (by intro e; rw [e] at hk; simp at hk)
  exact ⟨b, off, e2, hc k hk⟩
set_option maxRecDepth 100000 in
set_option maxHeartbeats 8000000 in
theorem eqbl_any (u v : Value) (l m : List Bool) (w : World) (hu : BoolsAt w u l) (hv : BoolsAt w v m) :
    Calls Try.prog 23 #[u, v] w fun e w' => e = .returned (.bool (eqB l m)) ∧ Below w.heap.size w w' := by
  have HU := hide hu
  have HV := hide hv
  obtain ⟨a, cap, rfl, hcap, hm, _⟩ := hu
  obtain ⟨a', cap', rfl, hcap', hm', _⟩ := hv
  unfold maxLen at hm
  by_cases hl : l.length = m.length
  · have HE := hide hl
    rw [← hl] at hcap' HV ⊢
    clear hl
    go_enter Try.func23, Try.ntmps23
    go_wp2
    go_loopw [13, 5] (fun iv _ wr => ∃ i : Nat, i ≤ l.length ∧ iv = .int .i64 i ∧ Below w.heap.size w wr ∧ ∀ j, j < i → bl l j = bl m j) (fun iv _ _ => l.length - (intOf iv).toNat)
    case atStart => exact ⟨0, Nat.zero_le _, rfl, Below.refl _ _, fun j h => absurd h (Nat.not_lt_zero _)⟩
    case round =>
      obtain ⟨i, hi, rfl, hwr, hf⟩ := hrel
      have HF := hide hf
      have HW := hide hwr
      clear hf hwr
      by_cases hlt : i < l.length
      · obtain ⟨b, off, rfl, k1⟩ := HU.out.at hlt
        obtain ⟨b', off', rfl, k2⟩ := HV.out.at (by rw [← HE.out]; exact hlt)
        replace k1 := (HW.out.cell (World.block_lt_of_cell? w _ k1)).trans k1
        replace k2 := (HW.out.cell (World.block_lt_of_cell? w _ k2)).trans k2
        obtain ⟨x, hx⟩ : ∃ x, x = bl l i := ⟨_, rfl⟩
        obtain ⟨y, hy⟩ : ∃ y, y = bl m i := ⟨_, rfl⟩
        rw [← hx] at k1
        rw [← hy] at k2
        have HX := hide hx
        have HY := hide hy
        clear hx hy
        cases x with
        | true =>
         cases y with
         | true =>
          go_wp2
          go_quiet (fail)
          go_wp2
          go_roundw
          case rel => exact ⟨i + 1, by omega, by go_num, below_drewN HW.out _, fun j hj => by
            rcases Nat.lt_or_ge j i with h | h
            · exact HF.out j h
            · have e : j = i := by omega
              subst e
              rw [← HX.out]; exact HY.out⟩
          case measure => simp [intOf]; omega
         | false =>
          have HN : Hid (bl l i ≠ bl m i) := hide (by rw [← HX.out, ← HY.out]; decide)
          go_wp2
          go_quiet (fail)
          go_wp2
          go_ret
          exact ⟨by rw [eqB_no (bools_ne HN.out)]; rfl, below_drewN HW.out _⟩
        | false =>
         cases y with
         | true =>
          have HN : Hid (bl l i ≠ bl m i) := hide (by rw [← HX.out, ← HY.out]; decide)
          go_wp2
          go_quiet (fail)
          go_wp2
          go_ret
          exact ⟨by rw [eqB_no (bools_ne HN.out)]; rfl, below_drewN HW.out _⟩
         | false =>
          go_wp2
          go_quiet (fail)
          go_wp2
          go_roundw
          case rel => exact ⟨i + 1, by omega, by go_num, below_drewN HW.out _, fun j hj => by
            rcases Nat.lt_or_ge j i with h | h
            · exact HF.out j h
            · have e : j = i := by omega
              subst e
              rw [← HX.out]; exact HY.out⟩
          case measure => simp [intOf]; omega
      · have e : i = l.length := by omega
        subst e
        go_wp2
        go_ret
        exact ⟨by rw [eqB_yes (bools_eq HE.out HF.out)]; rfl, HW.out⟩
  · have hl' : ((l.length : Int) != (m.length : Int)) = true := by simp; omega
    have HN : Hid (l ≠ m) := hide (fun e => hl (by rw [e]))
    go_enter Try.func23, Try.ntmps23
    go_wp2
    go_ret
    exact ⟨by rw [eqB_no HN.out]; rfl, Below.refl _ _⟩
set_option maxRecDepth 100000 in
set_option maxHeartbeats 8000000 in
theorem index_ones (u : Value) (n : Nat) (w : World) (hu : BoolsAt w u (List.replicate n true)) :
    Calls Try.prog 55 #[u, .bool false] w fun e w' => e = .returned (.int .i64 (-1)) ∧ w' = w := by
  have HU := hide hu
  obtain ⟨a, cap, rfl, hcap, hm, _⟩ := hu
  rw [List.length_replicate] at hcap HU ⊢
  unfold maxLen at hm
  go_enter Try.func55, Try.ntmps55
  go_wp2
  go_loopw [8, 5] (fun iv _ wr => wr = w ∧ ∃ i : Nat, i ≤ n ∧ iv = .int .i64 i) (fun iv _ _ => n - (intOf iv).toNat)
  case atStart => exact ⟨rfl, 0, Nat.zero_le _, rfl⟩
  case round =>
    obtain ⟨hwr, i, hi, rfl⟩ := hrel
    subst hwr
    by_cases hlt : i < n
    · obtain ⟨b, off, rfl, k1⟩ := HU.out.at (k := i) (by rw [List.length_replicate]; exact hlt)
      have e : bl (List.replicate n true) i = true := by unfold bl; rw [List.getD_eq_getElem?_getD, List.getElem?_replicate, if_pos hlt]; rfl
      rw [e] at k1
      go_wp2
      go_roundw
      case rel => exact ⟨trivial, i + 1, by omega, by go_num⟩
      case measure => simp [intOf]; omega
    · have e : i = n := by omega
      subst e
      go_wp2
      go_ret
      exact ⟨rfl, rfl⟩
set_option maxRecDepth 100000 in
set_option maxHeartbeats 8000000 in
theorem contains_ones (u : Value) (n : Nat) (w : World) (hu : BoolsAt w u (List.replicate n true)) :
    Calls Try.prog 32 #[u, .bool false] w fun e w' => e = .returned (.bool false) ∧ Below w.heap.size w w' := by
  have HU := hide hu
  obtain ⟨a, cap, rfl, _⟩ := hu
  rw [List.length_replicate] at HU ⊢
  go_enter Try.func32, Try.ntmps32
  go_wp2_with fail
  refine (index_ones _ n _ HU.out).mono ?_
  rintro e w2 ⟨rfl, rfl⟩
  go_wp2
  go_ret
  exact ⟨rfl, Below.refl _ _⟩
end Go.Proofs.Ytcciojlbfaanmaa
