/- slices.Equal over two lists of limbs tells whether they are one list. -/
import Derived.Test.YtmibgcpafccliaaDoorLists
namespace Go.Proofs.YtmibgcpafccliaaDoor
open Go.RowKit

set_option maxRecDepth 100000 in
set_option maxHeartbeats 400000 in
theorem equal_any (v1 v2 : Value) (xs ys : List Nat) (w : World) (h1 : Nums w v1 xs) (h2 : Nums w v2 ys) :
    Calls Tryd.prog 18 #[v1, v2] w fun e w' => e = .returned (.bool (decide (xs = ys))) ∧ Below w.heap.size w w' := by
  have hN1 : Hid (Nums w v1 xs) := h1
  have hN2 : Hid (Nums w v2 ys) := h2
  obtain ⟨ho1, a1, c1, rfl, hl1, hm1, hc1⟩ := h1
  obtain ⟨ho2, a2, c2, rfl, hl2, hm2, hc2⟩ := h2
  unfold maxLen at hm1 hm2
  by_cases hne : xs.length = ys.length
  · have hne' : (((xs.length : Nat) : Int) != ((ys.length : Nat) : Int)) = false := by simp [hne]
    have HE : Hid (xs.length = ys.length) := hne
    have hle1 : ys.length ≤ xs.length := by omega
    have hle2 : xs.length ≤ ys.length := by omega
    clear hne
    have HC1 : Hid (xs ≠ [] → ∃ b off, a1 = some ⟨b, off, none⟩ ∧ ∀ i, i < xs.length → w.cell? ⟨b, off + i, none⟩ = some (.int .u32 (lm xs i : Nat))) := hc1
    have HC2 : Hid (ys ≠ [] → ∃ b off, a2 = some ⟨b, off, none⟩ ∧ ∀ i, i < ys.length → w.cell? ⟨b, off + i, none⟩ = some (.int .u32 (lm ys i : Nat))) := hc2
    clear hc1 hc2
    go_enter Tryd.func18, Tryd.ntmps18
    go_wp2
    go_loopw [13] (fun i wr => ∃ k : Nat, k ≤ xs.length ∧ i = .int .i64 k ∧ (∀ j, j < k → lm xs j = lm ys j) ∧ Below w.heap.size w wr) (fun i _ => xs.length - (intOf i).toNat)
    case atStart => exact ⟨0, Nat.zero_le _, rfl, fun j hj => absurd hj (Nat.not_lt_zero _), Below.refl _ _⟩
    case round =>
      obtain ⟨k, hk, rfl, hag, hbel⟩ := hrel
      have HA : Hid (∀ j, j < k → lm xs j = lm ys j) := hag
      clear hag
      by_cases hlt : k < xs.length
      · obtain ⟨b1, o1, rfl, hx⟩ := HC1.out (ne_nil hlt)
        obtain ⟨b2, o2, rfl, hy⟩ := HC2.out (ne_nil (k := k) (by omega))
        have hx' : wr.cell? ⟨b1, o1 + k, none⟩ = some (.int .u32 (lm xs k : Nat)) := by rw [hbel.cell (World.block_lt_of_cell? w _ (hx k hlt))]; exact hx k hlt
        have hy' : wr.cell? ⟨b2, o2 + k, none⟩ = some (.int .u32 (lm ys k : Nat)) := by rw [hbel.cell (World.block_lt_of_cell? w _ (hy k (by omega)))]; exact hy k (by omega)
        have hlt2 : k < ys.length := by omega
        clear hx hy HC1 HC2
        by_cases he : lm xs k = lm ys k
        · have he' : (((lm xs k : Nat) : Int) != ((lm ys k : Nat) : Int)) = false := by simp [he]
          have HEK : Hid (lm xs k = lm ys k) := he
          clear he
          go_wp2
          go_quiet (fail)
          go_wp2
          go_roundw
          case rel => exact ⟨k + 1, by omega, by go_num, fun j hj => by rcases Nat.lt_succ_iff_lt_or_eq.1 hj with h | rfl; exact HA.out j h; exact HEK.out, below_drewN hbel _⟩
          case measure => simp [intOf]; omega
        · have he' : (((lm xs k : Nat) : Int) != ((lm ys k : Nat) : Int)) = true := by simp; omega
          go_wp2
          go_quiet (fail)
          go_wp2
          go_ret
          exact ⟨by simp; exact fun e => he (by rw [e]), below_drewN hbel _⟩
      · go_wp2
        go_ret
        have hxy : xs = ys := lists_eq HE.out (fun i hi => HA.out i (by omega))
        exact ⟨by simp [hxy], hbel⟩
  · have hne' : (((xs.length : Nat) : Int) != ((ys.length : Nat) : Int)) = true := by simp; omega
    have hxy : Hid (xs ≠ ys) := by intro e; exact hne (by rw [e])
    go_enter Tryd.func18, Tryd.ntmps18
    go_wp2
    go_ret
    exact ⟨by simp [hxy.out], Below.refl _ _⟩

theorem equal_yes (v1 v2 : Value) (xs : List Nat) (w : World) (h1 : Nums w v1 xs) (h2 : Nums w v2 xs) :
    Calls Tryd.prog 18 #[v1, v2] w fun e w' => e = .returned (.bool true) ∧ Below w.heap.size w w' := by
  refine (equal_any v1 v2 xs xs w h1 h2).mono ?_
  rintro e w' ⟨rfl, hb⟩
  exact ⟨by simp, hb⟩
end Go.Proofs.YtmibgcpafccliaaDoor
