/- A piece in the middle of a row that a call writes: what lies ahead of it, the piece, what lies behind it. -/
import Derived.Test.YtgkibmigbjjnnaaTimes
import Derived.Lib.BitFns
import Derived.Lib.Small
import Derived.Lib.Strings
import Derived.Lib.Walk
namespace Go.Proofs.Ytgkibmigbjjnnaa
open Go.RowKit

theorem mid_set (R1 A P R2 : List Nat) (k x : Nat) (hA : A.length = k) (hk : k < P.length) :
    (R1 ++ ((A ++ P.drop k) ++ R2)).set (R1.length + k) x = R1 ++ (((A ++ [x]) ++ P.drop (k + 1)) ++ R2) := by
  have e : R1.length + k - R1.length = k := by omega
  have hd : 0 < (P.drop k).length := by rw [List.length_drop]; omega
  rw [List.set_append_right _ _ (by omega), e, List.set_append_left _ _ (by rw [List.length_append]; omega), drop_set A P k x hA hk]

theorem mid_lm (R1 A P R2 : List Nat) (k : Nat) (hA : A.length = k) (hk : k < P.length) : lm (R1 ++ ((A ++ P.drop k) ++ R2)) (R1.length + k) = lm P k := by
  rw [lm_append_right _ _ _ (by omega), show R1.length + k - R1.length = k from by omega, lm_append_left _ _ _ (by rw [List.length_append, List.length_drop]; omega), lm_append_right _ _ _ (by omega), hA, Nat.sub_self, lm_drop, Nat.add_zero]

theorem mid_lm0 (R1 P R2 : List Nat) (k : Nat) (hk : k < P.length) : lm (R1 ++ (P ++ R2)) (R1.length + k) = lm P k := by
  rw [lm_append_right _ _ _ (by omega), show R1.length + k - R1.length = k from by omega, lm_append_left _ _ _ hk]

/-- block g holds the row R1 P R2, none of it frozen -/
def Seg (w : World) (base g N cap : Nat) (R : List Nat) : Prop := RowC w base g N cap R ∧ R.length = N

theorem Seg.cell {w : World} {base g N cap : Nat} {R : List Nat} (h : Seg w base g N cap R) (i : Nat) (hi : i < N) : w.cell? ⟨g, i, none⟩ = some (.int .u32 (lm R i : Nat)) := h.1.cell h.2 i hi
theorem Seg.free {w : World} {base g N cap : Nat} {R : List Nat} (h : Seg w base g N cap R) (i : Nat) : w.frozen? ⟨g, i, none⟩ = false := h.1.free i
theorem Seg.set {w : World} {base g N cap : Nat} {R R' : List Nat} (h : Seg w base g N cap R) (i x : Nat) (e : R.set i x = R') : Seg (w.setCell ⟨g, i, none⟩ (.int .u32 (x : Nat))) base g N cap R' := by
  subst e
  exact ⟨h.1.set i x, by rw [List.length_set]; exact h.2⟩
theorem Seg.kept {w w' : World} {base g N cap : Nat} {R : List Nat} {row : Option Nat} (h : Seg w base g N cap R) (hg : w.grownBy w' row) (hne : some g ≠ row) : Seg w' base g N cap R :=
  ⟨World.ownsRow.kept h.1 hg (.inr hne), h.2⟩
theorem Seg.lt {w : World} {base g N cap : Nat} {R : List Nat} (h : Seg w base g N cap R) : g < w.heap.size := (World.ownsRow.lt h.1 g rfl).2

/-- a carry that goes up: each limb is f k and the carry -/
structure UpAt (F : Nat → Nat) (k q : Nat) (A : List Nat) : Prop where
  len : A.length = k
  ok : Ok A
  sum : val A + BB ^ k * q = F k

/-- so many bits are wanted for x -/
def IsLen (x L : Nat) : Prop := x < 2 ^ L ∧ (0 < x → 1 ≤ L ∧ 2 ^ (L - 1) ≤ x)

theorem isLen8 : ∀ n : Fin 256, IsLen n.val (Lib.len8tab.data.getD n.val 0).toNat ∧ (Lib.len8tab.data.getD n.val 0).toNat ≤ 8 := by unfold IsLen; decide +kernel
theorem tab_size : Lib.len8tab.size = 256 := by decide +kernel
theorem get_data (s : ByteArray) (i : Nat) (h : i < s.size) : s.data.getD i 0 = s[i] := by
  have h' : i < s.data.size := h
  rw [Array.getD, dif_pos h']; rfl
theorem tab_len {i : Nat} (h : i < Lib.len8tab.size) : IsLen i Lib.len8tab[i].toNat ∧ Lib.len8tab[i].toNat ≤ 8 := by
  have h2 : i < 256 := by rw [tab_size] at h; exact h
  have := isLen8 ⟨i, h2⟩
  rw [get_data _ i h] at this
  exact this
theorem w64_len (c : Int) (t : Nat) (hc : 0 ≤ c) (hc2 : c ≤ 24) (ht : t ≤ 8) : wrap64 (c + wrap64 (t : Int)) = c + (t : Int) := by
  unfold wrap64; omega
theorem IsLen.shift {x b L : Nat} (h : IsLen (x / 2 ^ b) L) (hp : 0 < x / 2 ^ b) : IsLen x (b + L) := by
  obtain ⟨h1, h2⟩ := h
  obtain ⟨h3, h4⟩ := h2 hp
  have hb : 0 < 2 ^ b := Nat.two_pow_pos b
  refine ⟨?_, fun _ => ⟨by omega, ?_⟩⟩
  · rw [Nat.div_lt_iff_lt_mul hb, ← Nat.pow_add] at h1; rw [Nat.add_comm]; exact h1
  · rw [Nat.le_div_iff_mul_le hb, ← Nat.pow_add] at h4
    rw [show b + L - 1 = L - 1 + b from by omega]; exact h4
theorem tab_up {x L b : Nat} (hx : 0 < x / 2 ^ b) (h : IsLen (x / 2 ^ b) L ∧ L ≤ 8) (hb : b ≤ 24) : IsLen x (b + L) ∧ b + L ≤ 32 := ⟨h.1.shift hx, by omega⟩

set_option maxRecDepth 100000 in
set_option maxHeartbeats 4000000 in
theorem len32_any (x : Int) (w : World) (h0 : 0 ≤ x) (h1 : x ≤ 4294967295) :
    Calls Try.prog 118 #[.int .u32 x] w fun e w' => ∃ L : Nat, e = .returned (.int .i64 (L : Nat)) ∧ IsLen x.toNat L ∧ L ≤ 32 ∧ w = w' := by
  have hs := tab_size
  go_enter Try.func118, Try.ntmps118
  go_wp2
  all_goals go_ret
  · have hi : (x / 65536 / 256).toNat < Lib.len8tab.size := by rw [hs]; omega
    have h := tab_len hi
    have e : (x / 65536 / 256).toNat = x.toNat / 2 ^ 24 := by rw [show (2 : Nat) ^ 24 = 16777216 from by decide]; omega
    generalize Lib.len8tab[(x / 65536 / 256).toNat].toNat = t at h ⊢
    rw [e] at h
    obtain ⟨h2, h3⟩ := tab_up (by rw [← e]; omega) h (Nat.le_refl _)
    exact ⟨24 + t, congrArg Ending.returned (congrArg (Value.int .i64) (w64_len 24 t (by omega) (by omega) h.2)), h2, h3, rfl⟩
  · have hi : (x / 65536).toNat < Lib.len8tab.size := by rw [hs]; omega
    have h := tab_len hi
    have e : (x / 65536).toNat = x.toNat / 2 ^ 16 := by rw [show (2 : Nat) ^ 16 = 65536 from by decide]; omega
    generalize Lib.len8tab[(x / 65536).toNat].toNat = t at h ⊢
    rw [e] at h
    obtain ⟨h2, h3⟩ := tab_up (by rw [← e]; omega) h (by omega)
    exact ⟨16 + t, congrArg Ending.returned (congrArg (Value.int .i64) (w64_len 16 t (by omega) (by omega) h.2)), h2, h3, rfl⟩
  · have hi : (x / 256).toNat < Lib.len8tab.size := by rw [hs]; omega
    have h := tab_len hi
    have e : (x / 256).toNat = x.toNat / 2 ^ 8 := by rw [show (2 : Nat) ^ 8 = 256 from by decide]; omega
    generalize Lib.len8tab[(x / 256).toNat].toNat = t at h ⊢
    rw [e] at h
    obtain ⟨h2, h3⟩ := tab_up (by rw [← e]; omega) h (by omega)
    exact ⟨8 + t, congrArg Ending.returned (congrArg (Value.int .i64) (w64_len 8 t (by omega) (by omega) h.2)), h2, h3, rfl⟩
  · have hi : x.toNat < Lib.len8tab.size := by rw [hs]; omega
    have h := tab_len hi
    generalize Lib.len8tab[x.toNat].toNat = t at h ⊢
    refine ⟨t, congrArg Ending.returned (congrArg (Value.int .i64) ?_), h.1, by omega, rfl⟩
    have := w64_len 0 t (by omega) (by omega) h.2
    simpa using this

set_option maxRecDepth 100000 in
set_option maxHeartbeats 400000 in
theorem lead_any (x : Nat) (w : World) (hx : x < 4294967296) (hp : 0 < x) :
    Calls Try.prog 110 #[.int .u32 x] w fun e w' => ∃ s : Nat, e = .returned (.int .i64 (s : Nat)) ∧ s < 32 ∧ 2147483648 ≤ x * 2 ^ s ∧ x * 2 ^ s < 4294967296 ∧ w = w' := by
  go_enter Try.func110, Try.ntmps110
  go_wp2_with fail
  refine (len32_any x _ (by omega) (by omega)).mono ?_
  rintro e w1 ⟨L, rfl, hL, hL2, rfl⟩
  have HL := hide hL
  clear hL
  go_wp2
  go_ret
  obtain ⟨h1, h2⟩ := HL.out
  rw [Int.toNat_natCast] at h1 h2
  obtain ⟨h3, h4⟩ := h2 hp
  refine ⟨32 - L, congrArg Ending.returned (congrArg (Value.int .i64) (by omega)), by omega, ?_, ?_, rfl⟩
  · have : 2 ^ (L - 1) * 2 ^ (32 - L) ≤ x * 2 ^ (32 - L) := Nat.mul_le_mul_right _ h4
    rw [← Nat.pow_add, show L - 1 + (32 - L) = 31 from by omega] at this
    exact this
  · have : x * 2 ^ (32 - L) < 2 ^ L * 2 ^ (32 - L) := Nat.mul_lt_mul_of_pos_right h1 (Nat.two_pow_pos _)
    rw [← Nat.pow_add, show L + (32 - L) = 32 from by omega] at this
    exact this
end Go.Proofs.Ytgkibmigbjjnnaa
