/- math/bits' OnesCount and TrailingZeros at constants that may be. -/
import Derived.Test.YtgkpdeabcijokaaDoorFoM
import Derived.Shelf.Spec.TrailingZeros
namespace Go.Proofs.YtgkpdeabcijokaaDoor
open Go.RowKit

def TabW64 (w : World) : Prop := Go.Proofs.TabAt 1 Lib.deBruijn64tab w
theorem TabW64.below {w w' : World} (h : TabW64 w) (hb : Below w.heap.size w w') : TabW64 w' := fun j hj => (hb.cell (World.block_lt_of_cell? w _ (h j hj))).trans (h j hj)
set_option maxRecDepth 100000 in
set_option maxHeartbeats 4000000 in
theorem ones64_any (n : Nat) (w : World) (h1 : n < 513) :
    Calls Tryd.prog 37 #[.int .u64 n] w fun e w' => ∃ k : Int, e = .returned (.int .i64 k) ∧ (k = 1 ↔ 0 < p2 n ∨ n = 1) ∧ w' = w := by
  have h0 : (0 : Int) ≤ (n : Int) := by omega
  go_enter Tryd.func37, Tryd.ntmps37
  go_wp2
  go_ret
  refine ⟨_, rfl, ?_, rfl⟩
  clear h0 w
  revert n
  decide +kernel
set_option maxRecDepth 100000 in
theorem ones_any (c : Int) (w : World) (h0 : 1 < c) (h1 : c ≤ 512) :
    Calls Tryd.prog 27 #[.int .u64 c] w fun e w' => ∃ k : Int, e = .returned (.int .i64 k) ∧ (k = 1 ↔ 0 < p2 c) ∧ w' = w := by
  obtain ⟨n, rfl⟩ : ∃ n : Nat, c = n := ⟨c.toNat, by omega⟩
  go_enter Tryd.func27, Tryd.ntmps27
  go_wp2_with fail
  refine (ones64_any n _ (by omega)).mono ?_
  rintro e w1 ⟨k, rfl, hk, rfl⟩
  go_wp2
  go_ret
  exact ⟨k, rfl, by rw [hk]; constructor <;> intro h <;> omega, rfl⟩
theorem p2_cases {c : Int} (h : 0 < p2 c) : c = 2 ∨ c = 4 ∨ c = 8 ∨ c = 16 ∨ c = 32 ∨ c = 64 ∨ c = 128 ∨ c = 256 ∨ c = 512 := by
  unfold p2 at h
  repeat' split at h
  all_goals omega
set_option maxRecDepth 100000 in
set_option maxHeartbeats 2000000 in
theorem tz64_core (x k idx : Nat) (w : World) (hx0 : ((x : Int) == 0) = false) (key : IntKind.u64.wrap (bits BinOp.and IntKind.u64 (x : Int) (IntKind.u64.wrap (-(x : Int))) * 285870213051353865) / 288230376151711744 = (idx : Int)) (hi : idx < 64) (hk : k < 64)
    (hcell : w.cell? ⟨1, idx, none⟩ = some (.int .u8 k)) :
    Calls Tryd.prog 39 #[.int .u64 x] w fun e w' => e = .returned (.int .i64 (k : Nat)) ∧ w' = w := by
  go_enter Tryd.func39, Tryd.ntmps39
  go_wp2_with (simp only [key])
  go_ret
  exact ⟨rfl, rfl⟩
theorem tz64_any (c : Int) (w : World) (h : 0 < p2 c) (hT : TabW64 w) :
    Calls Tryd.prog 39 #[.int .u64 c] w fun e w' => e = .returned (.int .i64 (p2 c)) ∧ w' = w := by
  rcases p2_cases h with rfl | rfl | rfl | rfl | rfl | rfl | rfl | rfl | rfl
  · exact tz64_core 2 1 1 w (by decide) (by decide +kernel) (by decide) (by decide) (hT 1 (by decide))
  · exact tz64_core 4 2 3 w (by decide) (by decide +kernel) (by decide) (by decide) (hT 3 (by decide))
  · exact tz64_core 8 3 7 w (by decide) (by decide +kernel) (by decide) (by decide) (hT 7 (by decide))
  · exact tz64_core 16 4 15 w (by decide) (by decide +kernel) (by decide) (by decide) (hT 15 (by decide))
  · exact tz64_core 32 5 31 w (by decide) (by decide +kernel) (by decide) (by decide) (hT 31 (by decide))
  · exact tz64_core 64 6 63 w (by decide) (by decide +kernel) (by decide) (by decide) (hT 63 (by decide))
  · exact tz64_core 128 7 62 w (by decide) (by decide +kernel) (by decide) (by decide) (hT 62 (by decide))
  · exact tz64_core 256 8 61 w (by decide) (by decide +kernel) (by decide) (by decide) (hT 61 (by decide))
  · exact tz64_core 512 9 59 w (by decide) (by decide +kernel) (by decide) (by decide) (hT 59 (by decide))
set_option maxRecDepth 100000 in
theorem tz_any (c : Int) (w : World) (h : 0 < p2 c) (hT : TabW64 w) :
    Calls Tryd.prog 28 #[.int .u64 c] w fun e w' => e = .returned (.int .i64 (p2 c)) ∧ w' = w := by
  go_enter Tryd.func28, Tryd.ntmps28
  go_wp2_with fail
  refine (tz64_any c _ h hT).mono ?_
  rintro e w1 ⟨rfl, rfl⟩
  go_wp2
  go_ret
  exact ⟨rfl, rfl⟩
theorem tz_anyB (c : Int) (w : World) (h : 0 < p2 c) (hT : TabW64 w) :
    Calls Tryd.prog 28 #[.int .u64 c] w fun e w' => e = .returned (.int .i64 (p2 c)) ∧ Below w.heap.size w w' :=
  (tz_any c w h hT).mono fun _ _ h => ⟨h.1, by rw [h.2]; exact Below.refl _ _⟩
theorem TabW64.drew {w : World} (h : TabW64 w) : TabW64 w.drew := h.below (Below.refl w.heap.size w).drew
end Go.Proofs.YtgkpdeabcijokaaDoor
