/- swagelaw01.LimbKnown answers true, and turns nothing that was there. -/
import Derived.Test.YtdhbjgedaclgcaaDoorWorks
import Derived.Test.YtdhbjgedaclgcaaDoorLShift
import Derived.Test.YtdhbjgedaclgcaaDoorDivAll
import Derived.Test.YtdhbjgedaclgcaaDoorRead
import Derived.Test.YtdhbjgedaclgcaaDoorAdd
import Derived.Test.YtdhbjgedaclgcaaDoorSub
import Derived.RegionTactic
import Derived.Deep.Cut
import Derived.Laws.Strings
namespace Go.Proofs.YtdhbjgedaclgcaaDoor
open Go.RowKit

theorem lm_zero {xs : List Nat} (hz : val xs = 0) : ∀ i, lm xs i = 0 := by
  induction xs with
  | nil => intro i; simp [lm]
  | cons x xs ih =>
    intro i
    simp only [val] at hz
    have h1 : x = 0 := by omega
    have h2 : val xs = 0 := by
      have : BB * val xs = 0 := by omega
      rcases Nat.mul_eq_zero.1 this with h | h
      · unfold BB at h; omega
      · exact h
    cases i with
    | zero => simpa [lm] using h1
    | succ i => simpa [lm] using ih h2 i
set_option maxRecDepth 100000 in
set_option maxHeartbeats 2000000 in
theorem twos_none (w : World) : Calls Tryd.prog 18 #[.slice none 0 0] w fun e w' => e = .returned (.int .i64 0) ∧ w' = w := by
  go_enter Tryd.func18, Tryd.ntmps18
  go_wp2
  go_loopw [2, 3, 4, 7] (fun _ _ _ iv wr => iv = .int .i64 0 ∧ wr = w) (fun _ _ _ _ _ => 0)
  case atStart => exact ⟨rfl, rfl⟩
  case round =>
    obtain ⟨rfl, rfl⟩ := hrel
    go_wp2
    go_ret
    exact ⟨rfl, rfl⟩
set_option maxRecDepth 100000 in
set_option maxHeartbeats 2000000 in
theorem shl_under (v : Value) (xs : List Nat) (w : World) (h : Nums w v xs) :
    Calls Tryd.prog 12 #[v, .int .i64 (-1)] w fun e w' => e = .returned (.tuple #[.slice none 0 0, .int .i64 2]) ∧ w' = w := by
  obtain ⟨_, a1, c1, rfl, _, _, _⟩ := h
  go_enter Tryd.func12, Tryd.ntmps12
  go_wp2
  go_ret2
  exact ⟨rfl, rfl⟩
set_option maxRecDepth 100000 in
set_option maxHeartbeats 2000000 in
theorem shl_over (w : World) :
    Calls Tryd.prog 12 #[.slice none 0 0, .int .i64 65537] w fun e w' => e = .returned (.tuple #[.slice none 0 0, .int .i64 3]) ∧ w' = w := by
  go_enter Tryd.func12, Tryd.ntmps12
  go_wp2
  go_ret2
  exact ⟨rfl, rfl⟩
theorem k_far (n : Nat) (h : 1 ≤ n) : lim (val [1] / 2 ^ n) = [] := by
  have e : val [1] = 1 := by decide
  have h2 : 1 < 2 ^ n := Nat.one_lt_two_pow (by omega)
  rw [e, Nat.div_eq_of_lt h2]; exact lim_zero
theorem shr_far (v : Value) (w : World) (h : Nums w v [1]) :
    Calls Tryd.prog 13 #[v, .int .i64 4611686018427387904] w fun e w' => ∃ v', e = .returned (.tuple #[v', .int .i64 0]) ∧ Nums w' v' [] ∧ Below w.heap.size w w' := by
  have key : ∀ n : Nat, 1 ≤ n → n ≤ 9223372036854775807 → Calls Tryd.prog 13 #[v, .int .i64 (n : Int)] w fun e w' => ∃ v', e = .returned (.tuple #[v', .int .i64 0]) ∧ Nums w' v' [] ∧ Below w.heap.size w w' := fun n h1 h2 => by
    refine (shr_any v [1] n w h h2 (by simp)).mono ?_
    rintro e w' ⟨v', rfl, m, hb⟩
    rw [k_far n h1] at m
    exact ⟨v', rfl, m, hb⟩
  exact key 4611686018427387904 (by decide) (by decide)
theorem nums_none {w : World} {v : Value} (h : Nums w v []) : ∃ a c, v = .slice a 0 c := by
  obtain ⟨_, a, c, rfl, _⟩ := h
  exact ⟨a, c, rfl⟩
theorem nums_at (w : World) (t : TypeId) (xs : List Nat) (vs : Array Value) (b n : Nat) (hb : b = w.heap.size) (hn : n = xs.length) (hv : vs.toList = ints xs) (ho : xs.all (fun x => decide (x < 4294967296)) = true) (hl : n ≤ 1000) : Nums (w.alloc (.cells vs t)) (.slice (some ⟨b, 0, none⟩) n n) xs := by
  subst hb
  refine nums_lit xs vs hv (fun x hx => ?_) (by unfold maxLen; omega) hn
  have := List.all_eq_true.1 ho x hx
  unfold BB
  exact of_decide_eq_true this
theorem bel1 {w w' : World} {p : Obj} (h : Below (w.alloc p).heap.size (w.alloc p) w') : Below w.heap.size w w' := (below_alloc w p).trans (h.mono (by simp))
theorem bel2 {w w' : World} {p q : Obj} (h : Below ((w.alloc p).alloc q).heap.size ((w.alloc p).alloc q) w') : Below w.heap.size w w' := bel1 (bel1 h)
theorem sz1 (w : World) (p : Obj) : w.heap.size + 1 = (w.alloc p).heap.size := (World.size_alloc _ _).symm
theorem k_len33 {L : Nat} (h : IsLen (val [0, 1]) L) : L = 33 := h.onlyL (show IsLen (val [0, 1]) 33 from ⟨by decide, fun _ => ⟨by decide, by decide⟩⟩) (by decide)
set_option maxRecDepth 100000 in
set_option maxHeartbeats 2000000 in
theorem bits_none (w : World) : Calls Tryd.prog 16 #[.slice none 0 0] w fun e w' => e = .returned (.int .i64 0) ∧ w' = w := by
  go_enter Tryd.func16, Tryd.ntmps16
  go_wp2_with fail
  refine (trim_any _ [] _ (Nums.nil_mk _ _ _ (Nat.zero_le _))).mono ?_
  rintro e w1 ⟨v', rfl, rfl, hN, _⟩
  rw [show val [] = 0 from rfl, lim_zero] at hN
  obtain ⟨a, c, rfl⟩ := nums_none hN
  clear hN
  go_wp2
  go_ret
  exact ⟨rfl, rfl⟩
theorem k_twos {k : Nat} (h : IsTwos (val [0, 4]) k) : k = 34 := h.only ⟨0, by decide⟩
theorem k_t0 : txt (val []) = ⟨#[48]⟩ := by
  have e : val [] = 0 := rfl
  have hn : nd 0 = 0 := nd_unique (by decide) (.inl rfl)
  unfold txt dec
  rw [e, hn]
  decide
theorem k_a : lim (val [1, 0, 0]) = [1] := by
  have e : val [1, 0, 0] = 1 := by decide
  rw [e]
  exact lim1 (by decide) (by decide)
theorem k_b : lim (val [0]) = [] := by
  have e : val [0] = 0 := by decide
  rw [e]
  exact lim_zero
theorem k_c : lim (val [4294967295] + val [1]) = [0, 1] := by
  have e : val [4294967295] + val [1] = 4294967296 := by decide
  rw [e]
  exact lim2 (by decide) (by decide) (by decide) (by decide)
theorem k_d : lim (val [0, 1] - val [1]) = [4294967295] := by
  have e : val [0, 1] - val [1] = 4294967295 := by decide
  rw [e]
  exact lim1 (by decide) (by decide)
theorem k_e : lim (val [0, 0] - val []) = [] := by
  have e : val [0, 0] - val [] = 0 := by decide
  rw [e]
  exact lim_zero
theorem k_f : lim (val [0, 1] / 10) = [429496729] := by
  have e : val [0, 1] / 10 = 429496729 := by decide
  rw [e]
  exact lim1 (by decide) (by decide)
theorem k_g : lim (val [5] / val [7]) = [] := by
  have e : val [5] / val [7] = 0 := by decide
  rw [e]
  exact lim_zero
theorem k_h : lim (val [5] % val [7]) = [5] := by
  have e : val [5] % val [7] = 5 := by decide
  rw [e]
  exact lim1 (by decide) (by decide)
theorem k_i : lim (val [1] * 2 ^ 33) = [0, 2] := by
  have e : val [1] * 2 ^ 33 = 8589934592 := by decide
  rw [e]
  exact lim2 (by decide) (by decide) (by decide) (by decide)
theorem k_j : lim (val [0, 2] / 2 ^ 33) = [1] := by
  have e : val [0, 2] / 2 ^ 33 = 1 := by decide
  rw [e]
  exact lim1 (by decide) (by decide)
theorem k_k : lim (Nat.gcd (val [12]) (val [18])) = [6] := by
  have e : Nat.gcd (val [12]) (val [18]) = 6 := by decide
  rw [e]
  exact lim1 (by decide) (by decide)
theorem k_l : lim (Nat.gcd (val []) (val [5, 0])) = [5] := by
  have e : Nat.gcd (val []) (val [5, 0]) = 5 := by decide
  rw [e]
  exact lim1 (by decide) (by decide)
theorem k_m : lim (Nat.gcd (val []) (val [])) = [] := by
  have e : Nat.gcd (val []) (val []) = 0 := by decide
  rw [e]
  exact lim_zero
def tS (i : Nat) : ByteArray := [(⟨#[48, 48, 55]⟩ : ByteArray), (⟨#[]⟩ : ByteArray), (⟨#[49, 120]⟩ : ByteArray), (⟨#[45, 49]⟩ : ByteArray), (⟨#[48]⟩ : ByteArray), (⟨#[52, 50, 57, 52, 57, 54, 55, 50, 57, 54]⟩ : ByteArray)].getD i ⟨#[]⟩
def tX (i : Nat) : List Nat := [[], [], [], [], [], [0, 1]].getD i []
def tA (i : Nat) : Nat := [6, 6, 6, 6, 0, 0].getD i 0
def tB (i : Nat) : Nat := [1, 0, 1, 0, 0, 0].getD i 0
theorem tx_cells {W : World} {g : Nat} {t : TypeId} (h : W.heap[g]? = some (.cells #[.string ⟨#[48, 48, 55]⟩, .int .i64 6, .int .i64 1, .string ⟨#[]⟩, .int .i64 6, .int .i64 0, .string ⟨#[49, 120]⟩, .int .i64 6, .int .i64 1, .string ⟨#[45, 49]⟩, .int .i64 6, .int .i64 0, .string ⟨#[48]⟩, .int .i64 0, .int .i64 0, .string ⟨#[52, 50, 57, 52, 57, 54, 55, 50, 57, 54]⟩, .int .i64 0, .int .i64 0] t (0, 0))) (i : Nat) (hi : i < 6) : W.cell? ⟨g, i * 3, none⟩ = some (.string (tS i)) ∧ W.cell? ⟨g, i * 3 + 1, none⟩ = some (.int .i64 (tA i : Nat)) ∧ W.cell? ⟨g, i * 3 + 2, none⟩ = some (.int .i64 (tB i : Nat)) := by
  match i, hi with
  | 0, _ => refine ⟨?_, ?_, ?_⟩ <;> (unfold World.cell?; simp only [h]; rfl)
  | 1, _ => refine ⟨?_, ?_, ?_⟩ <;> (unfold World.cell?; simp only [h]; rfl)
  | 2, _ => refine ⟨?_, ?_, ?_⟩ <;> (unfold World.cell?; simp only [h]; rfl)
  | 3, _ => refine ⟨?_, ?_, ?_⟩ <;> (unfold World.cell?; simp only [h]; rfl)
  | 4, _ => refine ⟨?_, ?_, ?_⟩ <;> (unfold World.cell?; simp only [h]; rfl)
  | 5, _ => refine ⟨?_, ?_, ?_⟩ <;> (unfold World.cell?; simp only [h]; rfl)
theorem tx_free {W : World} {g : Nat} {t : TypeId} {vs : Array Value} (h : W.heap[g]? = some (.cells vs t (0, 0))) (o : Nat) : W.frozen? ⟨g, o, none⟩ = false := by simp [World.frozen?, h]
theorem tx_rd (i : Nat) (hi : i < 6) : Rd (tS i) (tX i) (tA i) (tB i) := by
  match i, hi with
  | 0, _ => exact .inr (.inr (.inl ⟨by decide, 1, by decide, ((Good.zero _).succ ⟨by decide, by decide, fun h => by first | omega | decide⟩), fun h => h.lead (by decide) (by decide), rfl, rfl, rfl⟩))
  | 1, _ => exact .inr (.inl ⟨rfl, rfl, rfl, rfl⟩)
  | 2, _ => exact .inr (.inr (.inl ⟨by decide, 1, by decide, ((Good.zero _).succ ⟨by decide, by decide, fun h => by first | omega | decide⟩), fun h => absurd h.hi (by decide), rfl, rfl, rfl⟩))
  | 3, _ => exact .inr (.inr (.inl ⟨by decide, 0, by decide, (Good.zero _), fun h => absurd h.lo (by decide), rfl, rfl, rfl⟩))
  | 4, _ => exact .inr (.inr (.inr ⟨by decide, by decide, ((Good.zero _).succ ⟨by decide, by decide, fun h => by first | omega | decide⟩), (show ([] : List Nat) = lim 0 from lim_zero.symm), rfl, rfl⟩))
  | 5, _ => exact .inr (.inr (.inr ⟨by decide, by decide, (((((((((((Good.zero _).succ ⟨by decide, by decide, fun h => by first | omega | decide⟩).succ ⟨by decide, by decide, fun h => by first | omega | decide⟩).succ ⟨by decide, by decide, fun h => by first | omega | decide⟩).succ ⟨by decide, by decide, fun h => by first | omega | decide⟩).succ ⟨by decide, by decide, fun h => by first | omega | decide⟩).succ ⟨by decide, by decide, fun h => by first | omega | decide⟩).succ ⟨by decide, by decide, fun h => by first | omega | decide⟩).succ ⟨by decide, by decide, fun h => by first | omega | decide⟩).succ ⟨by decide, by decide, fun h => by first | omega | decide⟩).succ ⟨by decide, by decide, fun h => by first | omega | decide⟩), (show [0, 1] = lim 4294967296 from (lim2 (by decide) (by decide) (by decide) (by decide)).symm), rfl, rfl⟩))
theorem tx_size (i : Nat) : (tS i).size ≤ 9223372036854775807 := by
  match i with
  | 0 => decide
  | 1 => decide
  | 2 => decide
  | 3 => decide
  | 4 => decide
  | 5 => decide
  | _ + 6 => exact (show (ByteArray.mk #[]).size ≤ 9223372036854775807 from by decide)
theorem tx_ne (i : Nat) (hi : i < 6) (h5 : i ≠ 5) : ¬ (tS i).toList = [52, 50, 57, 52, 57, 54, 55, 50, 57, 54] := by
  rw [ByteArray.toList_eq]
  match i, hi with
  | 0, _ => decide
  | 1, _ => decide
  | 2, _ => decide
  | 3, _ => decide
  | 4, _ => decide
  | 5, _ => exact absurd rfl h5
theorem below_same {w w' : World} (h : w' = w) : Below w.heap.size w w' := by rw [h]; exact Below.refl _ _
set_option maxRecDepth 100000 in
set_option maxHeartbeats 16000000 in
theorem known_walk (w : World) (hT : TabW w) : Calls Tryd.prog 3 #[] w fun e w' => e = .returned (.bool true) ∧ Below w.heap.size w w' := by
  go_enter Tryd.func3, Tryd.ntmps3
  have HT := hide hT
  have HB := hide (Below.refl w.heap.size w)
  clear hT
  go_wp2_with fail
  refine (works_any _).mono ?_
  rintro e w1 ⟨rfl, hb⟩
  have hB := hb
  replace HB := hide (HB.out.trans (hB.mono HB.out.size))
  replace HT := hide (HT.out.below hB)
  clear hb hB
  go_wp2_with fail
  refine (norm_any _ [1, 0, 0] _ (nums_at _ _ [1, 0, 0] _ _ _ rfl rfl rfl (by decide) (by decide)) (by simp)).mono ?_
  rintro e w2 ⟨v1, rfl, _, m, hb⟩
  have hB := (bel1 hb)
  replace HB := hide (HB.out.trans (hB.mono HB.out.size))
  replace HT := hide (HT.out.below hB)
  rw [k_a] at m
  have M1 := hide m
  clear m
  clear hb hB
  go_wp2_with fail
  refine (equal_yes _ _ [1] _ (M1.out.below (below_alloc _ _)) (nums_at _ _ [1] _ _ _ rfl rfl rfl (by decide) (by decide))).mono ?_
  rintro e w3 ⟨rfl, hb⟩
  have hB := (bel1 hb)
  replace HB := hide (HB.out.trans (hB.mono HB.out.size))
  replace HT := hide (HT.out.below hB)
  replace M1 := hide (M1.out.below hB)
  clear hb hB
  clear M1
  go_wp2_with fail
  refine (norm_any _ [0] _ (nums_at _ _ [0] _ _ _ rfl rfl rfl (by decide) (by decide)) (by simp)).mono ?_
  rintro e w4 ⟨v2, rfl, _, m, hb⟩
  have hB := (bel1 hb)
  replace HB := hide (HB.out.trans (hB.mono HB.out.size))
  replace HT := hide (HT.out.below hB)
  rw [k_b] at m
  obtain ⟨a_, c_, rfl⟩ := nums_none m
  clear m
  clear hb hB
  go_wp2_with fail
  refine (cmp_any _ _ [1, 0] [1] _ ((nums_at _ _ [1, 0] _ _ _ rfl rfl rfl (by decide) (by decide)).below (below_alloc _ _)) (nums_at _ _ [1] _ _ _ (sz1 _ _) rfl rfl (by decide) (by decide))).mono ?_
  rintro e w5 ⟨rfl, hb⟩
  have hB := (bel2 hb)
  replace HB := hide (HB.out.trans (hB.mono HB.out.size))
  replace HT := hide (HT.out.below hB)
  clear hb hB
  rw [show cmpI (val [1, 0]) (val [1]) = 0 from by decide]
  go_wp2_with fail
  refine (cmp_any _ _ [0, 1] [4294967295] _ ((nums_at _ _ [0, 1] _ _ _ rfl rfl rfl (by decide) (by decide)).below (below_alloc _ _)) (nums_at _ _ [4294967295] _ _ _ (sz1 _ _) rfl rfl (by decide) (by decide))).mono ?_
  rintro e w6 ⟨rfl, hb⟩
  have hB := (bel2 hb)
  replace HB := hide (HB.out.trans (hB.mono HB.out.size))
  replace HT := hide (HT.out.below hB)
  clear hb hB
  rw [show cmpI (val [0, 1]) (val [4294967295]) = 1 from by decide]
  go_wp2_with fail
  refine (add_any _ _ [4294967295] [1] _ ((nums_at _ _ [4294967295] _ _ _ rfl rfl rfl (by decide) (by decide)).below (below_alloc _ _)) (nums_at _ _ [1] _ _ _ (sz1 _ _) rfl rfl (by decide) (by decide)) (by simp) (by simp)).mono ?_
  rintro e w7 ⟨v3, rfl, m, hb⟩
  have hB := (bel2 hb)
  replace HB := hide (HB.out.trans (hB.mono HB.out.size))
  replace HT := hide (HT.out.below hB)
  rw [k_c] at m
  have M3 := hide m
  clear m
  clear hb hB
  go_wp2_with fail
  refine (equal_yes _ _ [0, 1] _ (M3.out.below (below_alloc _ _)) (nums_at _ _ [0, 1] _ _ _ rfl rfl rfl (by decide) (by decide))).mono ?_
  rintro e w8 ⟨rfl, hb⟩
  have hB := (bel1 hb)
  replace HB := hide (HB.out.trans (hB.mono HB.out.size))
  replace HT := hide (HT.out.below hB)
  replace M3 := hide (M3.out.below hB)
  clear hb hB
  clear M3
  go_wp2_with fail
  refine (sub_ge _ _ [0, 1] [1] _ ((nums_at _ _ [0, 1] _ _ _ rfl rfl rfl (by decide) (by decide)).below (below_alloc _ _)) (nums_at _ _ [1] _ _ _ (sz1 _ _) rfl rfl (by decide) (by decide)) (by simp) (by decide)).mono ?_
  rintro e w9 ⟨va, rfl, m, hb⟩
  have hB := (bel2 hb)
  replace HB := hide (HB.out.trans (hB.mono HB.out.size))
  replace HT := hide (HT.out.below hB)
  rw [k_d] at m
  have MA := hide m
  clear m
  clear hb hB
  go_wp2_with fail
  refine (sub_lt _ _ [1] [2] _ ((nums_at _ _ [1] _ _ _ rfl rfl rfl (by decide) (by decide)).below (below_alloc _ _)) (nums_at _ _ [2] _ _ _ (sz1 _ _) rfl rfl (by decide) (by decide)) (by decide)).mono ?_
  rintro e w10 ⟨rfl, hb⟩
  have hB := (bel2 hb)
  replace HB := hide (HB.out.trans (hB.mono HB.out.size))
  replace HT := hide (HT.out.below hB)
  replace MA := hide (MA.out.below hB)
  clear hb hB
  go_wp2_with fail
  refine (sub_ge _ _ [0, 0] [] _ (nums_at _ _ [0, 0] _ _ _ rfl rfl rfl (by decide) (by decide)) (Nums.nil_mk _ _ _ (Nat.zero_le _)) (by simp) (by decide)).mono ?_
  rintro e w11 ⟨vc, rfl, m, hb⟩
  have hB := (bel1 hb)
  replace HB := hide (HB.out.trans (hB.mono HB.out.size))
  replace HT := hide (HT.out.below hB)
  replace MA := hide (MA.out.below hB)
  rw [k_e] at m
  obtain ⟨a_, c_, rfl⟩ := nums_none m
  clear m
  clear hb hB
  go_wp2_with fail
  refine (divSmall_any _ [0, 1] 10 _ (nums_at _ _ [0, 1] _ _ _ rfl rfl rfl (by decide) (by decide)) (by decide) (by decide) (by simp)).mono ?_
  rintro e w12 ⟨vq, rfl, m, hb⟩
  have hB := (bel1 hb)
  replace HB := hide (HB.out.trans (hB.mono HB.out.size))
  replace HT := hide (HT.out.below hB)
  replace MA := hide (MA.out.below hB)
  rw [k_f] at m
  have MQ := hide m
  clear m
  clear hb hB
  rw [show val [0, 1] % 10 = 6 from by decide]
  go_wp2_with fail
  refine (divSmall_zero _ _).mono ?_
  rintro e w13 ⟨rfl, hw⟩
  have hb := below_same hw
  clear hw
  have hB := (bel1 hb)
  replace HB := hide (HB.out.trans (hB.mono HB.out.size))
  replace HT := hide (HT.out.below hB)
  replace MA := hide (MA.out.below hB)
  replace MQ := hide (MQ.out.below hB)
  clear hb hB
  go_wp2_with fail
  refine (divmod_any _ _ [5] [7] _ ((nums_at _ _ [5] _ _ _ rfl rfl rfl (by decide) (by decide)).below (below_alloc _ _)) (nums_at _ _ [7] _ _ _ (sz1 _ _) rfl rfl (by decide) (by decide)) (by simp) (by decide)).mono ?_
  rintro e w14 ⟨vx, vy, rfl, m, m2, hb⟩
  have hB := (bel2 hb)
  replace HB := hide (HB.out.trans (hB.mono HB.out.size))
  replace HT := hide (HT.out.below hB)
  replace MA := hide (MA.out.below hB)
  replace MQ := hide (MQ.out.below hB)
  rw [k_g] at m
  obtain ⟨a_, c_, rfl⟩ := nums_none m
  clear m
  rw [k_h] at m2
  have MY := hide m2
  clear m2
  clear hb hB
  go_wp2_with fail
  refine (divmod_zero _ _ [5] [0, 0] _ ((nums_at _ _ [5] _ _ _ rfl rfl rfl (by decide) (by decide)).below (below_alloc _ _)) (nums_at _ _ [0, 0] _ _ _ (sz1 _ _) rfl rfl (by decide) (by decide)) (by decide)).mono ?_
  rintro e w15 ⟨rfl, hw⟩
  have hb := below_same hw
  clear hw
  have hB := (bel2 hb)
  replace HB := hide (HB.out.trans (hB.mono HB.out.size))
  replace HT := hide (HT.out.below hB)
  replace MA := hide (MA.out.below hB)
  replace MQ := hide (MQ.out.below hB)
  replace MY := hide (MY.out.below hB)
  clear hb hB
  go_wp2_with fail
  refine (equal_yes _ _ [4294967295] _ (MA.out.below (below_alloc _ _)) (nums_at _ _ [4294967295] _ _ _ rfl rfl rfl (by decide) (by decide))).mono ?_
  rintro e w16 ⟨rfl, hb⟩
  have hB := (bel1 hb)
  replace HB := hide (HB.out.trans (hB.mono HB.out.size))
  replace HT := hide (HT.out.below hB)
  replace MA := hide (MA.out.below hB)
  replace MQ := hide (MQ.out.below hB)
  replace MY := hide (MY.out.below hB)
  clear hb hB
  clear MA
  go_wp2_with fail
  refine (equal_yes _ _ [429496729] _ (MQ.out.below (below_alloc _ _)) (nums_at _ _ [429496729] _ _ _ rfl rfl rfl (by decide) (by decide))).mono ?_
  rintro e w17 ⟨rfl, hb⟩
  have hB := (bel1 hb)
  replace HB := hide (HB.out.trans (hB.mono HB.out.size))
  replace HT := hide (HT.out.below hB)
  replace MQ := hide (MQ.out.below hB)
  replace MY := hide (MY.out.below hB)
  clear hb hB
  clear MQ
  go_wp2_with fail
  refine (equal_yes _ _ [5] _ (MY.out.below (below_alloc _ _)) (nums_at _ _ [5] _ _ _ rfl rfl rfl (by decide) (by decide))).mono ?_
  rintro e w18 ⟨rfl, hb⟩
  have hB := (bel1 hb)
  replace HB := hide (HB.out.trans (hB.mono HB.out.size))
  replace HT := hide (HT.out.below hB)
  replace MY := hide (MY.out.below hB)
  clear hb hB
  clear MY
  go_wp2_with fail
  refine (shl_any _ [1] 33 _ (nums_at _ _ [1] _ _ _ rfl rfl rfl (by decide) (by decide)) (by decide) (by simp)).mono ?_
  rintro e w19 ⟨vs, rfl, m, hb⟩
  have hB := (bel1 hb)
  replace HB := hide (HB.out.trans (hB.mono HB.out.size))
  replace HT := hide (HT.out.below hB)
  rw [k_i] at m
  have MS := hide m
  clear m
  clear hb hB
  go_wp2_with fail
  refine (shl_under _ [1] _ (nums_at _ _ [1] _ _ _ rfl rfl rfl (by decide) (by decide))).mono ?_
  rintro e w20 ⟨rfl, hw⟩
  have hb := below_same hw
  clear hw
  have hB := (bel1 hb)
  replace HB := hide (HB.out.trans (hB.mono HB.out.size))
  replace HT := hide (HT.out.below hB)
  replace MS := hide (MS.out.below hB)
  clear hb hB
  go_wp2_with fail
  refine (shl_over _).mono ?_
  rintro e w21 ⟨rfl, hw⟩
  have hb := below_same hw
  clear hw
  have hB := hb
  replace HB := hide (HB.out.trans (hB.mono HB.out.size))
  replace HT := hide (HT.out.below hB)
  replace MS := hide (MS.out.below hB)
  clear hb hB
  go_wp2_with fail
  refine (shr_any _ [0, 2] 33 _ (nums_at _ _ [0, 2] _ _ _ rfl rfl rfl (by decide) (by decide)) (by decide) (by simp)).mono ?_
  rintro e w22 ⟨vt, rfl, m, hb⟩
  have hB := (bel1 hb)
  replace HB := hide (HB.out.trans (hB.mono HB.out.size))
  replace HT := hide (HT.out.below hB)
  replace MS := hide (MS.out.below hB)
  rw [k_j] at m
  have MT := hide m
  clear m
  clear hb hB
  go_wp2_with fail
  refine (shr_far _ _ (nums_at _ _ [1] _ _ _ rfl rfl rfl (by decide) (by decide))).mono ?_
  rintro e w23 ⟨vu, rfl, m, hb⟩
  have hB := (bel1 hb)
  replace HB := hide (HB.out.trans (hB.mono HB.out.size))
  replace HT := hide (HT.out.below hB)
  replace MS := hide (MS.out.below hB)
  replace MT := hide (MT.out.below hB)
  obtain ⟨a_, c_, rfl⟩ := nums_none m
  clear m
  clear hb hB
  go_wp2_with fail
  refine (equal_yes _ _ [0, 2] _ (MS.out.below (below_alloc _ _)) (nums_at _ _ [0, 2] _ _ _ rfl rfl rfl (by decide) (by decide))).mono ?_
  rintro e w24 ⟨rfl, hb⟩
  have hB := (bel1 hb)
  replace HB := hide (HB.out.trans (hB.mono HB.out.size))
  replace HT := hide (HT.out.below hB)
  replace MS := hide (MS.out.below hB)
  replace MT := hide (MT.out.below hB)
  clear hb hB
  clear MS
  go_wp2_with fail
  refine (equal_yes _ _ [1] _ (MT.out.below (below_alloc _ _)) (nums_at _ _ [1] _ _ _ rfl rfl rfl (by decide) (by decide))).mono ?_
  rintro e w25 ⟨rfl, hb⟩
  have hB := (bel1 hb)
  replace HB := hide (HB.out.trans (hB.mono HB.out.size))
  replace HT := hide (HT.out.below hB)
  replace MT := hide (MT.out.below hB)
  clear hb hB
  clear MT
  go_upto_region 22 with fail
  have TB : Hid ((w25.alloc (.cells #[.string ⟨#[48, 48, 55]⟩, .int .i64 6, .int .i64 1, .string ⟨#[]⟩, .int .i64 6, .int .i64 0, .string ⟨#[49, 120]⟩, .int .i64 6, .int .i64 1, .string ⟨#[45, 49]⟩, .int .i64 6, .int .i64 0, .string ⟨#[48]⟩, .int .i64 0, .int .i64 0, .string ⟨#[52, 50, 57, 52, 57, 54, 55, 50, 57, 54]⟩, .int .i64 0, .int .i64 0] 39)).heap[w25.heap.size]? = some (.cells #[.string ⟨#[48, 48, 55]⟩, .int .i64 6, .int .i64 1, .string ⟨#[]⟩, .int .i64 6, .int .i64 0, .string ⟨#[49, 120]⟩, .int .i64 6, .int .i64 1, .string ⟨#[45, 49]⟩, .int .i64 6, .int .i64 0, .string ⟨#[48]⟩, .int .i64 0, .int .i64 0, .string ⟨#[52, 50, 57, 52, 57, 54, 55, 50, 57, 54]⟩, .int .i64 0, .int .i64 0] 39 (0, 0))) := hide (heap_alloc_new _ _)
  have hB := below_alloc w25 (.cells #[.string ⟨#[48, 48, 55]⟩, .int .i64 6, .int .i64 1, .string ⟨#[]⟩, .int .i64 6, .int .i64 0, .string ⟨#[49, 120]⟩, .int .i64 6, .int .i64 1, .string ⟨#[45, 49]⟩, .int .i64 6, .int .i64 0, .string ⟨#[48]⟩, .int .i64 0, .int .i64 0, .string ⟨#[52, 50, 57, 52, 57, 54, 55, 50, 57, 54]⟩, .int .i64 0, .int .i64 0] 39)
  replace HB := hide (HB.out.trans (hB.mono HB.out.size))
  replace HT := hide (HT.out.below hB)
  clear hB
  generalize w25.alloc (.cells #[.string ⟨#[48, 48, 55]⟩, .int .i64 6, .int .i64 1, .string ⟨#[]⟩, .int .i64 6, .int .i64 0, .string ⟨#[49, 120]⟩, .int .i64 6, .int .i64 1, .string ⟨#[45, 49]⟩, .int .i64 6, .int .i64 0, .string ⟨#[48]⟩, .int .i64 0, .int .i64 0, .string ⟨#[52, 50, 57, 52, 57, 54, 55, 50, 57, 54]⟩, .int .i64 0, .int .i64 0] 39) = wl at *
  generalize w25.heap.size = gB at *
  go_loopw [240, 23, 24, 25] (fun iv _ _ _ wr => ∃ i : Nat, i ≤ 6 ∧ iv = .int .i64 i ∧ wr.heap[gB]? = some (.cells #[.string ⟨#[48, 48, 55]⟩, .int .i64 6, .int .i64 1, .string ⟨#[]⟩, .int .i64 6, .int .i64 0, .string ⟨#[49, 120]⟩, .int .i64 6, .int .i64 1, .string ⟨#[45, 49]⟩, .int .i64 6, .int .i64 0, .string ⟨#[48]⟩, .int .i64 0, .int .i64 0, .string ⟨#[52, 50, 57, 52, 57, 54, 55, 50, 57, 54]⟩, .int .i64 0, .int .i64 0] 39 (0, 0)) ∧ Below w.heap.size w wr ∧ TabW wr) (fun iv _ _ _ _ => 6 - (intOf iv).toNat)
  case atStart => exact ⟨0, Nat.zero_le _, rfl, TB.out, HB.out, HT.out⟩
  case round =>
    clear TB HB HT
    obtain ⟨i, hi, rfl, tb, hb, ht⟩ := hrel
    have TB := hide tb
    have HB := hide hb
    have HT := hide ht
    clear tb hb ht
    by_cases hlt : i < 6
    · obtain ⟨c0, c1, c2⟩ := tx_cells TB.out i hlt
      have RD := hide (tx_rd i hlt)
      have TN := hide (tx_ne i hlt)
      obtain ⟨s, hs⟩ : ∃ s, s = tS i := ⟨_, rfl⟩
      obtain ⟨a, ha⟩ : ∃ a, a = tA i := ⟨_, rfl⟩
      obtain ⟨b, hb⟩ : ∃ b, b = tB i := ⟨_, rfl⟩
      rw [← hs] at c0 RD TN
      rw [← ha] at c1 RD
      rw [← hb] at c2 RD
      have HS := hide hs
      clear hs ha hb
      have SZ := hide (tx_size i)
      rw [← HS.out] at SZ
      go_wp2_with fail
      clear c0 c1 c2
      have KX : Hid ((wr.alloc (.cells #[.string s, .int .i64 (a : Nat), .int .i64 (b : Nat)] 39)).heap[wr.heap.size]? = some (.cells #[.string s, .int .i64 (a : Nat), .int .i64 (b : Nat)] 39 (0, 0))) := hide (heap_alloc_new _ _)
      have hB := below_alloc wr (.cells #[.string s, .int .i64 (a : Nat), .int .i64 (b : Nat)] 39)
      have gl := (Array.getElem?_eq_some_iff.1 TB.out).1
      replace TB := hide ((hB.block gB gl).trans TB.out)
      replace HB := hide (HB.out.trans (hB.mono HB.out.size))
      replace HT := hide (HT.out.below hB)
      clear hB gl
      generalize wr.alloc (.cells #[.string s, .int .i64 (a : Nat), .int .i64 (b : Nat)] 39) = wk at *
      generalize wr.heap.size = gk at *
      refine (read_any s _ SZ.out).mono ?_
      rintro e wm ⟨v, xs, a', b', rfl, hn, hr, hb⟩
      obtain ⟨rfl, rfl, rfl⟩ := hr.same RD.out
      clear hr
      have NX := hide hn
      clear hn
      have gl := (Array.getElem?_eq_some_iff.1 TB.out).1
      have kl := (Array.getElem?_eq_some_iff.1 KX.out).1
      replace TB := hide ((hb.block gB gl).trans TB.out)
      replace KX := hide ((hb.block gk kl).trans KX.out)
      replace HB := hide (HB.out.trans (hb.mono HB.out.size))
      replace HT := hide (HT.out.below hb)
      clear hb gl kl
      go_upto_region 25 with fail
      have EX : Hid ((wm.alloc (.cells #[.int .i64 (a' : Nat), .int .i64 (b' : Nat)] 38)).heap[wm.heap.size]? = some (.cells #[.int .i64 (a' : Nat), .int .i64 (b' : Nat)] 38 (0, 0))) := hide (heap_alloc_new _ _)
      have hB := below_alloc wm (.cells #[.int .i64 (a' : Nat), .int .i64 (b' : Nat)] 38)
      have gl := (Array.getElem?_eq_some_iff.1 TB.out).1
      have kl := (Array.getElem?_eq_some_iff.1 KX.out).1
      replace TB := hide ((hB.block gB gl).trans TB.out)
      replace KX := hide ((hB.block gk kl).trans KX.out)
      replace HB := hide (HB.out.trans (hB.mono HB.out.size))
      replace HT := hide (HT.out.below hB)
      replace NX := hide (NX.out.below hB)
      clear hB gl kl
      generalize wm.alloc (.cells #[.int .i64 (a' : Nat), .int .i64 (b' : Nat)] 38) = wn at *
      generalize wm.heap.size = ge at *
      have e0 : wn.cell? ⟨ge, 0, none⟩ = some (.int .i64 (a' : Nat)) := by unfold World.cell?; simp only [EX.out]; rfl
      have e1 : wn.cell? ⟨ge, 1, none⟩ = some (.int .i64 (b' : Nat)) := by unfold World.cell?; simp only [EX.out]; rfl
      have q0 : wn.cell? ⟨gk, 0, none⟩ = some (.string s) := by unfold World.cell?; simp only [KX.out]; rfl
      have q1 : wn.cell? ⟨gk, 1, none⟩ = some (.int .i64 (a' : Nat)) := by unfold World.cell?; simp only [KX.out]; rfl
      have q2 : wn.cell? ⟨gk, 2, none⟩ = some (.int .i64 (b' : Nat)) := by unfold World.cell?; simp only [KX.out]; rfl
      have ea : ((a' : Int) != a') = false := by simp
      have eb : ((b' : Int) != b') = false := by simp
      by_cases h5 : i = 5
      · subst h5
        obtain rfl : s = ⟨#[52, 50, 57, 52, 57, 54, 55, 50, 57, 54]⟩ := HS.out
        go_wp2_with fail
        refine (equal_yes _ _ [0, 1] _ ((show Nums wn v [0, 1] from NX.out).below (below_alloc _ _)) (nums_at _ _ [0, 1] _ _ _ rfl rfl rfl (by decide) (by decide))).mono ?_
        rintro e wq ⟨rfl, hb⟩
        have hB := bel1 hb
        clear hb e0 e1 q0 q1 q2
        have gl := (Array.getElem?_eq_some_iff.1 TB.out).1
        have kl := (Array.getElem?_eq_some_iff.1 KX.out).1
        replace TB := hide ((hB.block gB gl).trans TB.out)
        replace KX := hide ((hB.block gk kl).trans KX.out)
        replace HB := hide (HB.out.trans (hB.mono HB.out.size))
        replace HT := hide (HT.out.below hB)
        clear hB gl kl
        go_wp2
        go_roundw
        case rel => exact ⟨6, by omega, by go_num, TB.out, HB.out, HT.out⟩
        case measure => simp [intOf]
      · have hne := TN.out h5
        go_wp2
        go_roundw
        case rel => exact ⟨i + 1, by omega, by go_num, TB.out, HB.out, HT.out⟩
        case measure => simp [intOf]; omega
    · have e6 : i = 6 := by omega
      subst e6
      clear TB hlt hi
      go_wp2_with fail
      refine (gcd_any _ _ [12] [18] _ ((nums_at _ _ [12] _ _ _ rfl rfl rfl (by decide) (by decide)).below (below_alloc _ _)) (nums_at _ _ [18] _ _ _ (sz1 _ _) rfl rfl (by decide) (by decide)) (by simp) (by simp)).mono ?_
      rintro e w26 ⟨vg, rfl, m, hb⟩
      have hB := (bel2 hb)
      replace HB := hide (HB.out.trans (hB.mono HB.out.size))
      replace HT := hide (HT.out.below hB)
      rw [k_k] at m
      have MG := hide m
      clear m
      clear hb hB
      go_wp2_with fail
      refine (equal_yes _ _ [6] _ (MG.out.below (below_alloc _ _)) (nums_at _ _ [6] _ _ _ rfl rfl rfl (by decide) (by decide))).mono ?_
      rintro e w27 ⟨rfl, hb⟩
      have hB := (bel1 hb)
      replace HB := hide (HB.out.trans (hB.mono HB.out.size))
      replace HT := hide (HT.out.below hB)
      replace MG := hide (MG.out.below hB)
      clear hb hB
      clear MG
      go_wp2_with fail
      refine (gcd_any _ _ [] [5, 0] _ (Nums.nil_mk _ _ _ (Nat.zero_le _)) (nums_at _ _ [5, 0] _ _ _ rfl rfl rfl (by decide) (by decide)) (by simp) (by simp)).mono ?_
      rintro e w28 ⟨vh, rfl, m, hb⟩
      have hB := (bel1 hb)
      replace HB := hide (HB.out.trans (hB.mono HB.out.size))
      replace HT := hide (HT.out.below hB)
      rw [k_l] at m
      have MH := hide m
      clear m
      clear hb hB
      go_wp2_with fail
      refine (equal_yes _ _ [5] _ (MH.out.below (below_alloc _ _)) (nums_at _ _ [5] _ _ _ rfl rfl rfl (by decide) (by decide))).mono ?_
      rintro e w29 ⟨rfl, hb⟩
      have hB := (bel1 hb)
      replace HB := hide (HB.out.trans (hB.mono HB.out.size))
      replace HT := hide (HT.out.below hB)
      replace MH := hide (MH.out.below hB)
      clear hb hB
      clear MH
      go_wp2_with fail
      refine (gcd_any _ _ [] [] _ (Nums.nil_mk _ _ _ (Nat.zero_le _)) (Nums.nil_mk _ _ _ (Nat.zero_le _)) (by simp) (by simp)).mono ?_
      rintro e w30 ⟨vi, rfl, m, hb⟩
      have hB := hb
      replace HB := hide (HB.out.trans (hB.mono HB.out.size))
      replace HT := hide (HT.out.below hB)
      rw [k_m] at m
      obtain ⟨a_, c_, rfl⟩ := nums_none m
      clear m
      clear hb hB
      go_wp2_with fail
      refine (lbitsX_any _ [0, 1] _ (nums_at _ _ [0, 1] _ _ _ rfl rfl rfl (by decide) (by decide)) (by simp)).mono ?_
      rintro e w31 ⟨L1, rfl, hL, _, hw⟩
      have hb := below_same hw
      clear hw
      have hB := (bel1 hb)
      replace HB := hide (HB.out.trans (hB.mono HB.out.size))
      replace HT := hide (HT.out.below hB)
      obtain rfl := k_len33 hL
      clear hL
      clear hb hB
      go_wp2_with fail
      refine (bits_none _).mono ?_
      rintro e w32 ⟨rfl, hw⟩
      have hb := below_same hw
      clear hw
      have hB := hb
      replace HB := hide (HB.out.trans (hB.mono HB.out.size))
      replace HT := hide (HT.out.below hB)
      clear hb hB
      go_wp2_with fail
      refine (bit_any _ [0, 1] 32 _ (nums_at _ _ [0, 1] _ _ _ rfl rfl rfl (by decide) (by decide)) (by decide)).mono ?_
      rintro e w33 ⟨rfl, hw⟩
      have hb := below_same hw
      clear hw
      have hB := (bel1 hb)
      replace HB := hide (HB.out.trans (hB.mono HB.out.size))
      replace HT := hide (HT.out.below hB)
      clear hb hB
      rw [show bitB (val [0, 1]) 32 = true from by decide]
      go_wp2_with fail
      refine (bit_neg _ [1] (-1) _ (nums_at _ _ [1] _ _ _ rfl rfl rfl (by decide) (by decide)) (by decide)).mono ?_
      rintro e w34 ⟨rfl, hw⟩
      have hb := below_same hw
      clear hw
      have hB := (bel1 hb)
      replace HB := hide (HB.out.trans (hB.mono HB.out.size))
      replace HT := hide (HT.out.below hB)
      clear hb hB
      go_wp2_with fail
      refine (twos_any _ [0, 4] _ (nums_at _ _ [0, 4] _ _ _ rfl rfl rfl (by decide) (by decide)) (HT.out.below (below_alloc _ _)) (by simp) (by decide)).mono ?_
      rintro e w35 ⟨k1, rfl, hk, _, hw⟩
      have hb := below_same hw
      clear hw
      have hB := (bel1 hb)
      replace HB := hide (HB.out.trans (hB.mono HB.out.size))
      replace HT := hide (HT.out.below hB)
      obtain rfl := k_twos hk
      clear hk
      clear hb hB
      go_wp2_with fail
      refine (twos_none _).mono ?_
      rintro e w36 ⟨rfl, hw⟩
      have hb := below_same hw
      clear hw
      have hB := hb
      replace HB := hide (HB.out.trans (hB.mono HB.out.size))
      replace HT := hide (HT.out.below hB)
      clear hb hB
      go_wp2_with fail
      refine (text_any _ [] _ (Nums.nil_mk _ _ _ (Nat.zero_le _)) (by simp)).mono ?_
      rintro e w37 ⟨rfl, hb⟩
      have hB := hb
      replace HB := hide (HB.out.trans (hB.mono HB.out.size))
      replace HT := hide (HT.out.below hB)
      clear hb hB
      rw [k_t0]
      go_wp2
      go_ret
      exact ⟨rfl, HB.out⟩
end Go.Proofs.YtdhbjgedaclgcaaDoor
