/- limb.trim answers the piece of its list without the high noughts. -/
import Derived.Test.YtapodkjmhenceaaMem
import Derived.Test.YtapodkjmhenceaaChecked
namespace Go.Proofs.Ytapodkjmhenceaa
open Go.RowKit

theorem trim_step {xs : List Nat} {k : Nat} (hk : k + 1 ≤ xs.length) (hv : val (xs.take (k + 1)) = val xs) (hz : lm xs k = 0) : val (xs.take k) = val xs := by
  rw [take_succ_val xs k (by omega), hz] at hv; simpa using hv

theorem trim_end {w : World} {b off cap k : Nat} {xs : List Nat} (hN : Nums w (.slice (some ⟨b, off, none⟩) xs.length cap) xs) (hk : k ≤ xs.length) (hv : val (xs.take k) = val xs)
    (hz : k = 0 ∨ lm xs (k - 1) ≠ 0) : Nums w (.slice (some ⟨b, off, none⟩) k cap) (lim (val xs)) ∧ Cut (.slice (some ⟨b, off, none⟩) xs.length cap) (.slice (some ⟨b, off, none⟩) k cap) (lim (val xs)).length := by
  have e := take_lim hN.ok hk hv hz
  have hT := hN.take k hk
  rw [e] at hT
  have e0 : (lim (val xs)).length = k := by rw [← e, List.length_take]; omega
  exact ⟨hT, _, _, _, rfl, by rw [e0]⟩

set_option maxRecDepth 100000 in
set_option maxHeartbeats 400000 in
theorem trim_any (v : Value) (xs : List Nat) (w : World) (h : Nums w v xs) :
    Calls Try.prog 123 #[v] w fun e w' => ∃ v', e = .returned v' ∧ w = w' ∧ Nums w v' (lim (val xs)) ∧ Cut v v' (lim (val xs)).length := by
  have hN : Hid (Nums w v xs) := h
  rcases h.cases with ⟨rfl, a, cap, rfl, hcap⟩ | ⟨hpos, b, off, cap, rfl, hl, hm, hb, hc⟩
  · clear h
    go_enter Try.func123, Try.ntmps123
    go_wp2
    refine wp_loop_rounds 1 ?_
    rw [rounds_succ]
    go_wp2
    go_ret
    refine ⟨_, rfl, rfl, ?_, a, 0, cap, rfl, ?_⟩
    · simpa [Option.map_id, val, lim_zero] using hN.out
    · simp [val, lim_zero]
  · have ho : Hid (Ok xs) := h.ok
    clear h
    unfold maxLen at hm
    go_enter Try.func123, Try.ntmps123
    go_wp2
    go_loop [3] (fun n => ∃ k : Nat, k ≤ xs.length ∧ n = .int .i64 k ∧ val (xs.take k) = val xs) (fun n => (intOf n).toNat)
    case atStart => exact ⟨xs.length, Nat.le_refl _, rfl, by rw [List.take_length]⟩
    case round =>
      obtain ⟨k, hk, rfl, hv⟩ := hrel
      have HV : Hid (val (xs.take k) = val xs) := hv
      clear hv
      cases k with
      | zero =>
        go_wp2
        go_ret
        exact ⟨_, rfl, rfl, trim_end hN.out (Nat.zero_le _) HV.out (.inl rfl)⟩
      | succ k =>
        have hck := hc k (by omega)
        by_cases hz : lm xs k = 0
        · have hz' : (((lm xs k : Nat) : Int) == 0) = true := by simpa using hz
          have HZ : Hid (lm xs k = 0) := hz
          clear hz
          go_wp2
          go_round
          case rel => exact ⟨k, by omega, by go_num, trim_step hk HV.out HZ.out⟩
          case measure => simp [intOf]
        · have hz' : (((lm xs k : Nat) : Int) == 0) = false := by simpa using hz
          go_wp2
          go_ret
          exact ⟨_, rfl, rfl, trim_end hN.out hk HV.out (.inr hz)⟩
end Go.Proofs.Ytapodkjmhenceaa
