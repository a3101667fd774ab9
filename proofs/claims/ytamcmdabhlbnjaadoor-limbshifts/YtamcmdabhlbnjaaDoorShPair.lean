/- limb's and the document's Bits, Bit, Twos answer the same; limb's Shl and Shr refused. -/
import Derived.Test.YtamcmdabhlbnjaaDoorRefShift
namespace Go.Proofs.YtamcmdabhlbnjaaDoor
open Go.RowKit

set_option maxRecDepth 100000 in
set_option maxHeartbeats 2000000 in
theorem rbit_neg (v : Value) (xs : List Nat) (k : Int) (w : World) (h : Nums w v xs) (hk : k < 0) :
    Calls Tryd.prog 14 #[v, .int .i64 k] w fun e w' => e = .returned (.bool false) ∧ w' = w := by
  obtain ⟨_, a1, c1, rfl, _, _, _⟩ := h
  have hk2 : ¬ 0 ≤ k := by omega
  go_enter Tryd.func14, Tryd.ntmps14
  go_wp2
  go_ret
  exact ⟨rfl, rfl⟩
set_option maxRecDepth 100000 in
set_option maxHeartbeats 2000000 in
theorem shl_neg (v : Value) (xs : List Nat) (n : Int) (w : World) (h : Nums w v xs) (hk : n < 0) :
    Calls Tryd.prog 9 #[v, .int .i64 n] w fun e w' => e = .returned (.tuple #[.slice none 0 0, .int .i64 2]) ∧ w' = w := by
  obtain ⟨_, a1, c1, rfl, _, _, _⟩ := h
  go_enter Tryd.func9, Tryd.ntmps9
  go_wp2
  go_ret2
  exact ⟨rfl, rfl⟩
set_option maxRecDepth 100000 in
set_option maxHeartbeats 2000000 in
theorem shl_big (v : Value) (xs : List Nat) (n : Nat) (w : World) (h : Nums w v xs) (hk : 65536 < n) :
    Calls Tryd.prog 9 #[v, .int .i64 n] w fun e w' => e = .returned (.tuple #[.slice none 0 0, .int .i64 3]) ∧ w' = w := by
  obtain ⟨_, a1, c1, rfl, _, _, _⟩ := h
  have h1 : ¬ (n : Int) < 0 := by omega
  have h2 : (65536 : Int) < (n : Int) := by omega
  go_enter Tryd.func9, Tryd.ntmps9
  go_wp2
  go_ret2
  exact ⟨rfl, rfl⟩
set_option maxRecDepth 100000 in
set_option maxHeartbeats 2000000 in
theorem shr_neg (v : Value) (xs : List Nat) (n : Int) (w : World) (h : Nums w v xs) (hk : n < 0) :
    Calls Tryd.prog 10 #[v, .int .i64 n] w fun e w' => e = .returned (.tuple #[.slice none 0 0, .int .i64 2]) ∧ w' = w := by
  obtain ⟨_, a1, c1, rfl, _, _, _⟩ := h
  go_enter Tryd.func10, Tryd.ntmps10
  go_wp2
  go_ret2
  exact ⟨rfl, rfl⟩

def BitsPair (xs : List Nat) (z : Int) : Prop := (∀ v w, Nums w v xs → Calls Tryd.prog 11 #[v] w fun e w' => e = .returned (.int .i64 z) ∧ Below w.heap.size w w') ∧
  (∀ v w, Nums w v xs → Calls Tryd.prog 12 #[v] w fun e w' => e = .returned (.int .i64 z) ∧ Below w.heap.size w w')
theorem bits_pair (xs : List Nat) (hlen : xs.length ≤ 1000000) : ∃ z : Int, BitsPair xs z := by
  by_cases hz : val xs = 0
  · refine ⟨0, fun v w h => (lbits_zero v xs w h hz).mono ?_, fun v w h => rbits_zero v xs w h hlen hz⟩
    rintro e w' ⟨rfl, rfl⟩
    exact ⟨rfl, Below.refl _ _⟩
  · obtain ⟨L, hL⟩ : ∃ L, IsLen (val xs) L := ⟨Nat.log2 (val xs) + 1, Nat.lt_log2_self, fun _ => ⟨Nat.succ_pos _, by simpa using Nat.log2_self_le hz⟩⟩
    have hp := Nat.pos_of_ne_zero hz
    refine ⟨(L : Nat), fun v w h => (lbitsX_any v xs w h hlen).mono ?_, fun v w h => (rbits_any v xs w h (by omega)).mono ?_⟩
    · rintro e w' ⟨M, rfl, hM, _, rfl⟩
      rw [hM.onlyL hL hp]
      exact ⟨rfl, Below.refl _ _⟩
    · rintro e w' ⟨M, rfl, hM, _, hb⟩
      rw [hM.onlyL hL hp]
      exact ⟨rfl, hb⟩
def TwosPair (xs : List Nat) (z : Int) : Prop := (∀ v w, Nums w v xs → TabW w → Calls Tryd.prog 15 #[v] w fun e w' => e = .returned (.int .i64 z) ∧ Below w.heap.size w w') ∧
  (∀ v w, Nums w v xs → Calls Tryd.prog 16 #[v] w fun e w' => e = .returned (.int .i64 z) ∧ Below w.heap.size w w')
theorem twos_pair (xs : List Nat) (hlen : xs.length ≤ 1000000) : ∃ z : Int, TwosPair xs z := by
  by_cases hz : val xs = 0
  · refine ⟨0, fun v w h _ => (twos_zero v xs w h hz).mono ?_, fun v w h => rtwos_zero v xs w h hlen hz⟩
    rintro e w' ⟨rfl, rfl⟩
    exact ⟨rfl, Below.refl _ _⟩
  · have hp := Nat.pos_of_ne_zero hz
    obtain ⟨K, hK⟩ := exists_twos (val xs) hp
    refine ⟨(K : Nat), fun v w h hT => (twos_any v xs w h hT hlen hz).mono ?_, fun v w h => rtwos_any v xs K w h hlen hp hK⟩
    rintro e w' ⟨M, rfl, hM, _, rfl⟩
    rw [hM.only hK]
    exact ⟨rfl, Below.refl _ _⟩
def BitPair (xs : List Nat) (n : Int) (b : Bool) : Prop := (∀ v w, Nums w v xs → Calls Tryd.prog 13 #[v, .int .i64 n] w fun e w' => e = .returned (.bool b) ∧ Below w.heap.size w w') ∧
  (∀ v w, Nums w v xs → Calls Tryd.prog 14 #[v, .int .i64 n] w fun e w' => e = .returned (.bool b) ∧ Below w.heap.size w w')
theorem bit_pair (xs : List Nat) (n : Int) (hn : n ≤ 9223372036854775807) : ∃ b : Bool, BitPair xs n b := by
  by_cases h0 : n < 0
  · refine ⟨false, fun v w h => (bit_neg v xs n w h h0).mono ?_, fun v w h => (rbit_neg v xs n w h h0).mono ?_⟩
    · rintro e w' ⟨rfl, rfl⟩; exact ⟨rfl, Below.refl _ _⟩
    · rintro e w' ⟨rfl, rfl⟩; exact ⟨rfl, Below.refl _ _⟩
  · obtain ⟨k, rfl⟩ : ∃ k : Nat, n = (k : Int) := ⟨n.toNat, by omega⟩
    refine ⟨bitB (val xs) k, fun v w h => (bit_any v xs k w h (by omega)).mono ?_, fun v w h => (rbit_any v xs k w h (by omega)).mono ?_⟩
    · rintro e w' ⟨rfl, rfl⟩; exact ⟨rfl, Below.refl _ _⟩
    · rintro e w' ⟨rfl, rfl⟩; exact ⟨rfl, Below.refl _ _⟩
end Go.Proofs.YtamcmdabhlbnjaaDoor
