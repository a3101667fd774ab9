/- strings.HasPrefix and strings.CutPrefix with a prefix of one byte. -/
import Derived.Test.YtgkibmigbjjnnaaFault
namespace Go.Proofs.Ytgkibmigbjjnnaa
open Go.RowKit

/-- the text begins with this byte -/
def hp (s : ByteArray) (c : UInt8) : Bool := decide (0 < s.size ∧ bt s 0 = c.toNat)
/-- the text behind its first byte -/
def rest1 (s : ByteArray) : ByteArray := s.extract 1 s.size

theorem ext1 (s : ByteArray) (h : 0 < s.size) : s.extract 0 1 = ⟨#[s[0]]⟩ := by
  apply ByteArray.ext
  apply Array.ext
  · simp [ByteArray.data_extract]; omega
  · intro i h1 h2
    simp at h2
    subst h2
    simp [ByteArray.data_extract]
    rfl
theorem ext1_eq (s : ByteArray) (c : UInt8) (h : 0 < s.size) : ((s.extract 0 1).toList == [c]) = hp s c := by
  have hb := bt_get s 0 h
  rw [ext1 s h]
  have e : (⟨#[s[0]]⟩ : ByteArray).toList = [s[0]] := by go_simp
  rw [e, Bool.eq_iff_iff]
  simp [hp, h, ← hb, UInt8.toNat_inj]

theorem hp_yes {s : ByteArray} {c : UInt8} (h : hp s c = true) : 0 < s.size ∧ bt s 0 = c.toNat := by simpa [hp] using h
theorem hp_no {s : ByteArray} {c : UInt8} (h : hp s c = false) (h0 : 0 < s.size) : bt s 0 ≠ c.toNat := by
  intro e; simp [hp, h0, e] at h

set_option maxRecDepth 100000 in
theorem hasPrefix_lite (s : ByteArray) (c : UInt8) (w : World) (hs : s.size ≤ 9223372036854775807) :
    Calls Try.prog 96 #[.string s, .string ⟨#[c]⟩] w fun e w' => e = .returned (.bool (hp s c)) ∧ w' = w := by
  by_cases h : 0 < s.size
  · have h1 : (1 : Int) ≤ (s.size : Int) := by omega
    go_enter Try.func96, Try.ntmps96
    go_wp2
    go_ret
    exact ⟨congrArg (fun b => Ending.returned (Value.bool b)) (ext1_eq s c h), rfl⟩
  · have h0 : s.size = 0 := by omega
    go_enter Try.func96, Try.ntmps96
    go_wp2
    go_ret
    exact ⟨by simp [hp, h0], rfl⟩

set_option maxRecDepth 100000 in
theorem hasPrefix_any (s : ByteArray) (c : UInt8) (w : World) (hs : s.size ≤ 9223372036854775807) :
    Calls Try.prog 68 #[.string s, .string ⟨#[c]⟩] w fun e w' => e = .returned (.bool (hp s c)) ∧ w' = w := by
  go_enter Try.func68, Try.ntmps68
  go_wp2_with fail
  refine (hasPrefix_lite s c _ hs).mono ?_
  rintro e w' ⟨rfl, rfl⟩
  go_wp2
  go_ret
  exact ⟨rfl, rfl⟩

/-- what CutPrefix answers: the text behind the prefix -/
def cutP (s : ByteArray) (c : UInt8) : ByteArray := if hp s c then rest1 s else s

set_option maxRecDepth 100000 in
theorem cutPrefix_lite (s : ByteArray) (c : UInt8) (w : World) (hs : s.size ≤ 9223372036854775807) :
    Calls Try.prog 95 #[.string s, .string ⟨#[c]⟩] w fun e w' => e = .returned (.tuple #[.string (cutP s c), .bool (hp s c)]) ∧ w' = w := by
  go_enter Try.func95, Try.ntmps95
  go_wp2_with fail
  refine (hasPrefix_lite s c _ hs).mono ?_
  rintro e w' ⟨rfl, rfl⟩
  cases hc : hp s c with
  | false =>
    have HC := hide hc
    clear hc
    go_wp2
    go_ret2
    exact ⟨by simp [cutP, HC.out], rfl⟩
  | true =>
    have HC := hide hc
    have h1 : (1 : Int) ≤ (s.size : Int) := by have := (hp_yes hc).1; omega
    clear hc
    go_wp2
    go_ret2
    exact ⟨by simp [cutP, HC.out, rest1], rfl⟩
set_option maxRecDepth 100000 in
theorem cutPrefix_any (s : ByteArray) (c : UInt8) (w : World) (hs : s.size ≤ 9223372036854775807) :
    Calls Try.prog 67 #[.string s, .string ⟨#[c]⟩] w fun e w' => e = .returned (.tuple #[.string (cutP s c), .bool (hp s c)]) ∧ w' = w := by
  go_enter Try.func67, Try.ntmps67
  go_wp2_with fail
  refine (cutPrefix_lite s c _ hs).mono ?_
  rintro e w' ⟨rfl, rfl⟩
  go_wp2
  go_ret2
  exact ⟨rfl, rfl⟩

end Go.Proofs.Ytgkibmigbjjnnaa
