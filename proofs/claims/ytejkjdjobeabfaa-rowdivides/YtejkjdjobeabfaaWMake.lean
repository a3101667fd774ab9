/- row's noughts, Zero, Unit, lead, IsZero. -/
import Derived.Test.YtejkjdjobeabfaaWReck
import Derived.Test.YtejkjdjobeabfaaIOps
namespace Go.Proofs.Ytejkjdjobeabfaa
open Go.RowKit

theorem map_nought (n : Nat) : (List.range n).map (fun _ => (0 : Int)) = List.replicate n 0 := by
  apply List.ext_getElem
  · simp
  · intro i h1 h2; simp

set_option maxRecDepth 100000 in
set_option maxHeartbeats 2000000 in
theorem nought1_any (i : Nat) (w : World) : Calls Try.prog 79 #[.int .i64 i] w fun e w' => ∃ v, e = .returned v ∧ IntAt w' v 0 ∧ Below w.heap.size w w' := by
  have HP := hide (Box.new w (.bool false) (.slice none 0 0))
  have HB := hide (below_alloc w (.cells #[.bool false, .slice none 0 0] 36))
  go_enter Try.func79, Try.ntmps79
  go_wp2
  refine ret_int rfl w.heap.size _ _ _ _ rfl HP.out rfl ?_
  exact ⟨_, rfl, int_nought _, HB.out⟩

set_option maxRecDepth 100000 in
set_option maxHeartbeats 2000000 in
theorem noughts_any (n : Nat) (w : World) (hn : n ≤ 4000000000) :
    Calls Try.prog 59 #[.int .i64 n] w fun e w' => e = .returned (.slice (some ⟨w.heap.size, 0, none⟩) n n) ∧ IRow w' w.heap.size (List.replicate n 0) ∧ Below w.heap.size w w' := by
  go_enter Try.func59, Try.ntmps59
  go_wp2_with fail
  refine (each_any n 79 #[] (fun _ => 0) _ hn (enters_of Try.func79 (by kernel_rfl) rfl) fun i w' _ _ => by rw [Array.append_empty]; exact nought1_any i w').mono ?_
  rintro e w1 ⟨rfl, hr, hb⟩
  rw [map_nought] at hr
  have HR := hide hr
  have HB := hide hb
  clear hr hb
  go_wp2
  go_ret
  exact ⟨rfl, HR.out, HB.out⟩


/-- the sign of the first number that is not 0 -/
def leadI : List Int → Int
  | [] => 0
  | z :: r => if z = 0 then leadI r else sgnI z
theorem lead_drop {zs : List Int} {k : Nat} (h : k < zs.length) : leadI (zs.drop k) = if zs.getD k 0 = 0 then leadI (zs.drop (k + 1)) else sgnI (zs.getD k 0) := by
  rw [List.drop_eq_getElem_cons h]
  have e : zs.getD k 0 = zs[k] := by simp [h]
  rw [e]
  rfl
theorem lead_noughts (n : Nat) : leadI (List.replicate n 0) = 0 := by
  induction n with
  | zero => rfl
  | succ n ih => rw [List.replicate_succ]; show (if (0 : Int) = 0 then _ else _) = _; rw [if_pos rfl, ih]
theorem lead_unit : ∀ (n k : Nat), k < n → leadI ((List.replicate n 0).set k 1) = 1
  | n + 1, 0, _ => by rw [List.replicate_succ]; rfl
  | n + 1, k + 1, h => by
    rw [List.replicate_succ, List.set_cons_succ]
    show (if (0 : Int) = 0 then _ else _) = _
    rw [if_pos rfl]
    exact lead_unit n k (by omega)
theorem sgnI_ne0 {z : Int} (h : z ≠ 0) : (sgnI z == 0) = false := by rw [beq_eq_false_iff_ne]; unfold sgnI; split <;> (try split) <;> omega

set_option maxRecDepth 100000 in
set_option maxHeartbeats 4000000 in
theorem rlead_any (va : Value) (zs : List Int) (w : World) (h : Ints w va zs) :
    Calls Try.prog 58 #[va] w fun e w' => e = .returned (.int .i64 (leadI zs)) ∧ Below w.heap.size w w' := by
  have HI := hide h
  obtain ⟨a, cap, rfl, hcap, hmx, _⟩ := h
  unfold maxLen at hmx
  go_enter Try.func58, Try.ntmps58
  go_wp2
  go_loopw [4, 5, 8] (fun _ _ iv wr => ∃ k : Nat, k ≤ zs.length ∧ iv = .int .i64 k ∧ Below w.heap.size w wr ∧ leadI (zs.drop k) = leadI zs) (fun _ _ iv _ => zs.length - (intOf iv).toNat)
  case atStart => exact ⟨0, Nat.zero_le _, rfl, Below.refl _ _, rfl⟩
  case round =>
    obtain ⟨k, hk, rfl, hbel, hld⟩ := hrel
    have HB := hide hbel
    have HD := hide hld
    clear hbel hld
    by_cases hlt : k < zs.length
    · obtain ⟨b, off, rfl, s, m, l, c, k1, k2, k3⟩ := (HI.out.below HB.out).at hlt
      have IX := hide k3
      have e1 := k1.out
      have e2 := k2.out
      have HA := hide (below_alloc wr (.cells #[.bool s, .slice m l c] 36))
      have PX := hide (Box.new wr (.bool s) (.slice m l c))
      have x0 := PX.out.cell0
      have x1 := PX.out.cell1
      have HZ := hide (lead_drop hlt)
      clear k1 k2 k3
      generalize zs.getD k 0 = z at *
      go_wp2_with fail
      refine (isign_any _ z _ (IX.out.below HA.out)).mono ?_
      rintro e w1 ⟨rfl, hb⟩
      replace HB := hide ((HB.out.trans (HA.out.mono HB.out.size)).trans (hb.mono (HB.out.trans (HA.out.mono HB.out.size)).size))
      clear hb x0 x1 e1 e2 IX PX HA
      by_cases hz : z = 0
      · have SG : sgnI z = 0 := by rw [hz]; rfl
        have HZ0 := hide hz
        clear hz
        rw [SG]
        clear SG
        go_wp2
        go_roundw
        case rel => exact ⟨k + 1, by omega, by go_num, HB.out, by rw [← HD.out, HZ.out, if_pos HZ0.out]⟩
        case measure => simp [intOf]; omega
      · have SG := sgnI_ne0 hz
        have HZ0 := hide hz
        have HG : Hid (sgnI z = leadI zs) := hide (by rw [← HD.out, HZ.out, if_neg hz])
        clear hz
        generalize sgnI z = sz at *
        go_wp2
        go_ret
        exact ⟨by rw [HG.out]; rfl, HB.out⟩
    · have e : k = zs.length := by omega
      subst e
      have HG : Hid (leadI zs = 0) := hide (by rw [← HD.out, List.drop_length]; rfl)
      go_wp2
      go_ret
      exact ⟨by rw [HG.out]; rfl, HB.out⟩

end Go.Proofs.Ytejkjdjobeabfaa
