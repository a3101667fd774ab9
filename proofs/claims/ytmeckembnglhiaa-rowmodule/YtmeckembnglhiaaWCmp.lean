/- row's Cmp, Same, Widest. -/
import Derived.Test.YtmeckembnglhiaaWMake
import Derived.Test.YtmeckembnglhiaaIOf
namespace Go.Proofs.Ytmeckembnglhiaa
open Go.RowKit

/-- two rows that are as long as each other, held against each other -/
def cmpL : List Int → List Int → Int
  | x :: r, y :: q => if x = y then cmpL r q else cmpZ x y
  | _, _ => 0
theorem cmpL_drop {xs ys : List Int} {k : Nat} (h : k < xs.length) (h' : k < ys.length) : cmpL (xs.drop k) (ys.drop k) = if xs.getD k 0 = ys.getD k 0 then cmpL (xs.drop (k + 1)) (ys.drop (k + 1)) else cmpZ (xs.getD k 0) (ys.getD k 0) := by
  rw [List.drop_eq_getElem_cons h, List.drop_eq_getElem_cons h']
  have e : xs.getD k 0 = xs[k] := by simp [h]
  have e' : ys.getD k 0 = ys[k] := by simp [h']
  rw [e, e']
  rfl
theorem cmpZ_self (x : Int) : cmpZ x x = 0 := by unfold cmpZ; rw [if_neg (by omega), if_pos rfl]
theorem cmpZ_nz {x y : Int} (h : x ≠ y) : (cmpZ x y == 0) = false := by rw [beq_eq_false_iff_ne]; unfold cmpZ; split <;> (try split) <;> omega

set_option maxRecDepth 100000 in
set_option maxHeartbeats 4000000 in
theorem cmpfunc_any (va vb : Value) (xs ys : List Int) (w : World) (h1 : Ints w va xs) (h2 : Ints w vb ys) (hl : ys.length = xs.length) :
    Calls Try.prog 86 #[va, vb, .func (.func 35) #[] #[]] w fun e w' => e = .returned (.int .i64 (cmpL xs ys)) ∧ Below w.heap.size w w' := by
  have H1 := hide h1
  have H2 := hide h2
  obtain ⟨a, cap, rfl, hcap, hmx, _⟩ := h1
  obtain ⟨a', cap', rfl, hcap', hmx', _⟩ := h2
  generalize hyl : ys.length = ny at *
  subst hl
  have HL := hide hyl
  unfold maxLen at hmx hmx'
  clear hyl
  go_enter Try.func86, Try.ntmps86
  go_wp2
  go_loopw [7, 8, 9, 10, 13] (fun _ _ _ _ iv wr => ∃ k : Nat, k ≤ xs.length ∧ iv = .int .i64 k ∧ Below w.heap.size w wr ∧ cmpL (xs.drop k) (ys.drop k) = cmpL xs ys) (fun _ _ _ _ iv _ => xs.length - (intOf iv).toNat)
  case atStart => exact ⟨0, Nat.zero_le _, rfl, Below.refl _ _, rfl⟩
  case round =>
    obtain ⟨k, hk, rfl, hbel, hld⟩ := hrel
    have HB := hide hbel
    have HD := hide hld
    clear hbel hld
    by_cases hlt : k < xs.length
    · obtain ⟨b, off, rfl, s, m, l, c, k1, k2, k3⟩ := (H1.out.below HB.out).at hlt
      obtain ⟨b2, off2, rfl, s2, m2, l2, c2, q1, q2, q3⟩ := (H2.out.below HB.out).at (i := k) (by rw [HL.out]; exact hlt)
      have HZ := hide (cmpL_drop (ys := ys) hlt (by rw [HL.out]; exact hlt))
      have HA := hide (below_alloc wr (.cells #[.bool s, .slice m l c] 36))
      have HA2 := hide (below_alloc (wr.alloc (.cells #[.bool s, .slice m l c] 36)) (.cells #[.bool s2, .slice m2 l2 c2] 36))
      have PX := hide ((Box.new wr (.bool s) (.slice m l c)).step HA2.out)
      have PY := hide (Box.new (wr.alloc (.cells #[.bool s, .slice m l c] 36)) (.bool s2) (.slice m2 l2 c2))
      simp only [World.size_alloc] at PY
      have I1 := hide ((k3.below HA.out).below HA2.out)
      have I2 := hide ((q3.below HA.out).below HA2.out)
      have e1 := k1.out
      have e2 := k2.out
      have e3 := (q1.step HA.out).out
      have e4 := (q2.step HA.out).out
      have x0 := PX.out.cell0
      have x1 := PX.out.cell1
      have y0 := PY.out.cell0
      have y1 := PY.out.cell1
      clear k1 k2 k3 q1 q2 q3
      generalize xs.getD k 0 = x at *
      generalize ys.getD k 0 = y at *
      go_wp2_with fail
      refine (icmp_any _ _ x y _ I1.out I2.out).mono ?_
      rintro e w1 ⟨rfl, hb⟩
      replace HB := hide (HB.out.trans (((HA.out.trans (HA2.out.mono HA.out.size)).trans (hb.mono (HA.out.trans (HA2.out.mono HA.out.size)).size)).mono HB.out.size))
      clear hb x0 x1 y0 y1 e1 e2 e3 e4 I1 I2 PX PY HA HA2
      by_cases hz : x = y
      · have SG : cmpZ x y = 0 := by rw [hz]; exact cmpZ_self y
        have HZ0 := hide hz
        clear hz
        rw [SG]
        clear SG
        go_wp2
        go_roundw
        case rel => exact ⟨k + 1, by omega, by go_num, HB.out, by rw [← HD.out, HZ.out, if_pos HZ0.out]⟩
        case measure => simp [intOf]; omega
      · have SG := cmpZ_nz hz
        have HG : Hid (cmpZ x y = cmpL xs ys) := hide (by rw [← HD.out, HZ.out, if_neg hz])
        clear hz
        generalize cmpZ x y = sz at *
        go_wp2
        go_ret
        exact ⟨by rw [HG.out]; rfl, HB.out⟩
    · have e : k = xs.length := by omega
      subst e
      have HG : Hid (cmpL xs ys = 0) := hide (by rw [← HD.out, List.drop_length]; rfl)
      go_wp2
      go_ret
      exact ⟨by rw [HG.out]; rfl, HB.out⟩

/-- what Cmp says of two rows -/
def rowCmp (xs ys : List Int) : Int := if xs.length = ys.length then cmpL xs ys else if xs.length < ys.length then -1 else 1

set_option maxRecDepth 100000 in
set_option maxHeartbeats 4000000 in
theorem rcmpL_any (va vb : Value) (xs ys : List Int) (w : World) (h1 : Ints w va xs) (h2 : Ints w vb ys) :
    Calls Try.prog 66 #[va, vb] w fun e w' => e = .returned (.int .i64 (rowCmp xs ys)) ∧ Below w.heap.size w w' := by
  have H1 := hide h1
  have H2 := hide h2
  obtain ⟨a, cap, rfl, hcap, hmx, _⟩ := h1
  obtain ⟨a', cap', rfl, hcap', hmx', _⟩ := h2
  unfold rowCmp
  by_cases hl : xs.length = ys.length
  · rw [if_pos hl]
    generalize hyl : ys.length = ny at *
    subst hl
    have HL := hide hyl
    clear hyl
    go_enter Try.func66, Try.ntmps66
    go_wp2_with fail
    refine (cmpfunc_any _ _ xs ys _ H1.out H2.out HL.out).mono ?_
    rintro e w1 ⟨rfl, hb⟩
    have HB := hide hb
    clear hb
    go_wp2
    go_ret
    exact ⟨rfl, HB.out⟩
  · rw [if_neg hl]
    have hne : ((xs.length : Int) = (ys.length : Int)) = False := by simp only [eq_iff_iff, iff_false]; omega
    by_cases hlt : xs.length < ys.length
    · rw [if_pos hlt]
      have h3 : (xs.length : Int) < (ys.length : Int) := by omega
      go_enter Try.func66, Try.ntmps66
      go_wp2
      go_ret
      exact ⟨rfl, Below.refl _ _⟩
    · rw [if_neg hlt]
      have h3 : ¬ (xs.length : Int) < (ys.length : Int) := by omega
      have h4 : (ys.length : Int) < (xs.length : Int) := by omega
      go_enter Try.func66, Try.ntmps66
      go_wp2
      go_ret
      exact ⟨rfl, Below.refl _ _⟩

set_option maxRecDepth 100000 in
set_option maxHeartbeats 2000000 in
theorem rsameL_any (va vb : Value) (xs ys : List Int) (w : World) (h1 : Ints w va xs) (h2 : Ints w vb ys) :
    Calls Try.prog 34 #[va, vb] w fun e w' => e = .returned (.bool (rowCmp xs ys == 0)) ∧ Below w.heap.size w w' := by
  have H1 := hide h1
  have H2 := hide h2
  obtain ⟨a, cap, rfl, hcap, hmx, _⟩ := h1
  obtain ⟨a', cap', rfl, hcap', hmx', _⟩ := h2
  go_enter Try.func34, Try.ntmps34
  go_wp2_with fail
  refine (rcmpL_any _ _ xs ys _ H1.out H2.out).mono ?_
  rintro e w1 ⟨rfl, hb⟩
  have HB := hide hb
  clear hb
  go_wp2
  go_ret
  exact ⟨rfl, HB.out⟩
end Go.Proofs.Ytmeckembnglhiaa
