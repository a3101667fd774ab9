/- limb.fault: the place of the first byte with which a text is no number's text. -/
import Derived.Test.YtgkibmigbjjnnaaTimes
import Derived.Test.YtgkibmigbjjnnaaLaw
namespace Go.Proofs.Ytgkibmigbjjnnaa
open Go.RowKit

/-- a text's byte -/
def bt (s : ByteArray) (i : Nat) : Nat := if h : i < s.size then s[i].toNat else 0
theorem bt_get (s : ByteArray) (i : Nat) (h : i < s.size) : s[i].toNat = bt s i := by unfold bt; rw [dif_pos h]
/-- nothing wrong at this place -/
structure Fine (s : ByteArray) (i : Nat) : Prop where
  lo : 48 ≤ bt s i
  hi : bt s i ≤ 57
  lead : 1 ≤ i → bt s 0 ≠ 48
/-- nothing wrong up to this place -/
def Good (s : ByteArray) (i : Nat) : Prop := ∀ j, j < i → Fine s j
theorem Good.zero (s : ByteArray) : Good s 0 := fun j h => absurd h (by omega)
theorem Good.succ {s : ByteArray} {i : Nat} (h : Good s i) (f : Fine s i) : Good s (i + 1) := by
  intro j hj
  rcases Nat.lt_succ_iff_lt_or_eq.1 hj with h1 | rfl
  · exact h j h1
  · exact f
theorem Good.only {s : ByteArray} {i j : Nat} (h : Good s i) (b : ¬ Fine s i) (h' : Good s j) (b' : ¬ Fine s j) : i = j := by
  rcases Nat.lt_trichotomy i j with l | e | l
  · exact absurd (h' i l) b
  · exact e
  · exact absurd (h j l) b'

set_option maxRecDepth 100000 in
set_option maxHeartbeats 1000000 in
theorem fault_any (s : ByteArray) (w : World) (hs : s.size ≤ 65536) :
    Calls Try.prog 97 #[.string s] w fun e w' => w' = w ∧
      ((∃ i, i < s.size ∧ Good s i ∧ ¬ Fine s i ∧ e = .returned (.tuple #[.int .i64 (i : Nat), .bool false])) ∨
       (Good s s.size ∧ e = .returned (.tuple #[.int .i64 0, .bool (decide (0 < s.size))]))) := by
  go_enter Try.func97, Try.ntmps97
  go_wp2
  go_loopw [7] (fun iv wr => ∃ k : Nat, k ≤ s.size ∧ iv = .int .i64 k ∧ Good s k ∧ wr = w) (fun iv _ => s.size - (intOf iv).toNat)
  case atStart => exact ⟨0, Nat.zero_le _, rfl, Good.zero s, rfl⟩
  case round =>
    obtain ⟨k, hk, rfl, hg, rfl⟩ := hrel
    have HG := hide hg
    clear hg
    by_cases hlt : k < s.size
    · have h0 : 0 < s.size := by omega
      have hb := bt_get s k hlt
      have hb0 := bt_get s 0 h0
      by_cases c1 : bt s k < 48
      · go_wp2
        go_ret2
        exact ⟨rfl, .inl ⟨k, hlt, HG.out, fun f => by have := f.lo; omega, rfl⟩⟩
      · by_cases c2 : 57 < bt s k
        · go_wp2
          go_ret2
          exact ⟨rfl, .inl ⟨k, hlt, HG.out, fun f => by have := f.hi; omega, rfl⟩⟩
        · by_cases c3 : k = 1
          · subst c3
            by_cases c4 : bt s 0 = 48
            · go_wp2
              go_ret2
              exact ⟨rfl, .inl ⟨1, hlt, HG.out, fun f => f.lead (Nat.le_refl _) c4, rfl⟩⟩
            · have HF := hide (show Fine s 1 from ⟨by omega, by omega, fun _ => c4⟩)
              have c4b : (((bt s 0 : Nat) : Int) == 48) = false := by simp; omega
              clear c4
              go_wp2
              go_roundw
              case rel => exact ⟨2, by omega, rfl, HG.out.succ HF.out, trivial⟩
              case measure => simp [intOf]; omega
          · have HF := hide (show Fine s k from ⟨by omega, by omega, fun h1 => (HG.out 1 (by omega)).lead (Nat.le_refl _)⟩)
            go_wp2
            go_roundw
            case rel => exact ⟨k + 1, by omega, by go_num, HG.out.succ HF.out, trivial⟩
            case measure => simp [intOf]; omega
    · have e : k = s.size := by omega
      subst e
      go_wp2
      go_ret2
      exact ⟨rfl, .inr ⟨HG.out, by simp⟩⟩
end Go.Proofs.Ytgkibmigbjjnnaa
