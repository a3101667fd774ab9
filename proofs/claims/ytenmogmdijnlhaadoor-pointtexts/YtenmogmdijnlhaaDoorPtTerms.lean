/- point.terms: the texts of both coordinates; strconv.Atoi at any text. -/
import Derived.Test.YtenmogmdijnlhaaDoorPtTxl
import Derived.Test.YtenmogmdijnlhaaDoorSpl
import Derived.Lib.AtoiErrMem
namespace Go.Proofs.YtenmogmdijnlhaaDoor
open Go.RowKit

def rest40 (s : ByteArray) : ByteArray := ⟨(Lib.trimPrefix s.data.toList [40]).toArray⟩
def inner (s : ByteArray) : ByteArray := ⟨(Lib.trimSuffix (rest40 s).data.toList [41]).toArray⟩
/-- what point.terms answers -/
def termsP (s : ByteArray) : ByteArray × ByteArray :=
  if s = ⟨#[105, 110, 102]⟩ then (⟨#[49]⟩, ⟨#[48]⟩)
  else if Lib.hasPrefix s.data.toList [40] = true then ((cutB 58 (inner s)).1, (cutB 58 (inner s)).2.1)
  else if (cutB 47 s).2.2 = true then ((cutB 47 s).1, (cutB 47 s).2.1) else (s, ⟨#[49]⟩)
theorem rest40_size (s : ByteArray) : (rest40 s).size ≤ s.size := by
  have h : (Lib.trimPrefix s.data.toList [40]).length ≤ s.data.toList.length := by
    unfold Lib.trimPrefix
    split
    · rw [List.length_drop]; omega
    · exact Nat.le_refl _
  have h2 : s.data.toList.length = s.size := rfl
  have h3 : (rest40 s).size = (Lib.trimPrefix s.data.toList [40]).length := rfl
  omega
theorem ba_ne {s t : ByteArray} (h : s ≠ t) : (s.toList == t.toList) = false := by
  rw [beq_eq_false_iff_ne]
  intro e
  rw [ByteArray.toList_eq, ByteArray.toList_eq] at e
  exact h (ByteArray.ext (Array.toList_inj.1 e))
set_option maxRecDepth 100000 in
set_option maxHeartbeats 2000000 in
theorem terms_any (s : ByteArray) (w : World) (hs : s.size ≤ 4000000000) (hi : (inner s).size ≤ 4000000000) :
    Calls Tryd.prog 63 #[.string s] w fun e w' => e = .returned (.tuple #[.string (termsP s).1, .string (termsP s).2]) ∧ Below w.heap.size w w' := by
  have HS := hide hs
  have HI := hide hi
  clear hs hi
  obtain ⟨x, hx⟩ : ∃ x, x = (termsP s).1 := ⟨_, rfl⟩
  obtain ⟨y, hy⟩ : ∃ y, y = (termsP s).2 := ⟨_, rfl⟩
  rw [← hx, ← hy]
  have HX := hide hx
  have HY := hide hy
  clear hx hy
  go_enter Tryd.func63, Tryd.ntmps63
  unfold termsP at HX HY
  by_cases h1 : s = ⟨#[105, 110, 102]⟩
  · rw [if_pos h1] at HX HY
    have e1 := HX.out
    have e2 := HY.out
    subst h1 e1 e2
    go_wp2
    go_ret2
    exact ⟨rfl, Below.refl _ _⟩
  · rw [if_neg h1] at HX HY
    have n1 : (s.toList == [105, 110, 102]) = false := by
      have h := ba_ne h1
      rw [show (⟨#[105, 110, 102]⟩ : ByteArray).toList = [105, 110, 102] from by rw [ByteArray.toList_eq]] at h
      exact h
    clear h1
    go_wp2_with fail
    refine (Tryd.strings_CutPrefix s ⟨#[40]⟩ _).mono ?_
    rintro e w1 ⟨rfl, rfl⟩
    clear n1
    have RS := hide (show (⟨(Lib.trimPrefix s.data.toList (⟨#[40]⟩ : ByteArray).data.toList).toArray⟩ : ByteArray) = rest40 s from rfl)
    rw [RS.out]
    have HP := hide (show Lib.hasPrefix s.data.toList (⟨#[40]⟩ : ByteArray).data.toList = Lib.hasPrefix s.data.toList [40] from rfl)
    rw [HP.out]
    clear RS HP
    cases hp : Lib.hasPrefix s.data.toList [40] with
    | true =>
      rw [if_pos hp] at HX HY
      clear hp
      have IN := hide (show (⟨(Lib.trimSuffix (rest40 s).data.toList (⟨#[41]⟩ : ByteArray).data.toList).toArray⟩ : ByteArray) = inner s from rfl)
      have RZ : Hid ((rest40 s).size ≤ 9223372036854775807) := hide (by have := HS.out; have := rest40_size s; omega)
      generalize rest40 s = r at *
      go_wp2_with fail
      refine (Tryd.strings_TrimSuffix r ⟨#[41]⟩ _ RZ.out).mono ?_
      rintro e w2 ⟨rfl, rfl⟩
      rw [IN.out]
      clear IN
      go_wp2_with fail
      have CU := hide (cut_any (inner s) 58 w2 HI.out)
      obtain ⟨t, ht⟩ : ∃ t, t = cutB 58 (inner s) := ⟨_, rfl⟩
      rw [← ht] at CU HX HY
      clear ht
      obtain ⟨p, q, z⟩ := t
      have e1 := HX.out
      have e2 := HY.out
      try dsimp only at e1 e2
      subst e1 e2
      generalize inner s = n at *
      refine CU.out.mono ?_
      rintro e w3 ⟨rfl, hb⟩
      have HB := hide hb
      clear hb CU HX HY
      go_wp2
      go_ret2
      exact ⟨rfl, HB.out⟩
    | false =>
      rw [if_neg (by rw [hp]; decide)] at HX HY
      clear hp
      have CU := hide (cut_any s 47 w1 HS.out)
      obtain ⟨t, ht⟩ : ∃ t, t = cutB 47 s := ⟨_, rfl⟩
      rw [← ht] at CU HX HY
      clear ht
      obtain ⟨p, q, z⟩ := t
      generalize rest40 s = r at *
      go_wp2_with fail
      refine CU.out.mono ?_
      rintro e w3 ⟨rfl, hb⟩
      have HB := hide hb
      clear hb CU
      have e1 := HX.out
      have e2 := HY.out
      try dsimp only at e1 e2
      clear HX HY
      cases z with
      | true =>
        rw [if_pos rfl] at e1 e2
        try dsimp only at e1 e2
        subst e1 e2
        go_wp2
        go_ret2
        exact ⟨rfl, HB.out⟩
      | false =>
        rw [if_neg (by decide)] at e1 e2
        try dsimp only at e1 e2
        subst e1 e2
        go_wp2
        go_ret2
        exact ⟨rfl, HB.out⟩
end Go.Proofs.YtenmogmdijnlhaaDoor
