/- A variable that holds a number of the document's; how many digits numbers have; integer.Int's Times. -/
import Derived.Test.YtgkibmigbjjnnaaR2Make
import Derived.Test.YtgkibmigbjjnnaaIVar
import Derived.Test.YtgkibmigbjjnnaaNorm
import Derived.Test.YtgkibmigbjjnnaaCalm
import Derived.Test.YtgkibmigbjjnnaaDivOwn
namespace Go.Proofs.Ytgkibmigbjjnnaa
open Go.RowKit

/-- one more limb behind what is owned -/
theorem own_step {w5 w6 w1 : World} {base T : Nat} {v5 v6 : Value} {acc : List Nat} {x : Int} {n : Nat} (hx : x = (n : Int)) {o : Obj} (hO : Own w5 base v5 acc)
    (hown6 : w6.ownsRow base 84 1 v6 (acc.length + 1) (ints acc ++ [Value.int .u32 x])) (hgrow6 : (w5.alloc o).grownBy w6 v5.ownBlock) (hB5 : Below T w1 w5) (hT : T ≤ w5.heap.size) (hb : T ≤ base) :
    Own w6 base v6 (acc ++ [n]) ∧ Below T w1 w6 := by
  constructor
  · subst hx
    have e1 : ints acc ++ [Value.int .u32 (n : Int)] = ints (acc ++ [n]) := by simp [ints]
    rw [e1] at hown6
    show World.ownsRow _ _ _ _ _ _ _; simpa using hown6
  · exact (hB5.alloc hT o).grown hgrow6 (by simp; omega) (fun k hk => Nat.le_trans hb (hO.lt k hk).1)

/-- two digits a limb -/
def jnd (ds : List Nat) (k : Nat) : List Nat := (List.range k).map fun j => lm ds (2 * j) + 65536 * lm ds (2 * j + 1)
theorem dlm_lt {ds : List Nat} (h : D.Ok ds) (i : Nat) : lm ds i < 65536 := h.at i
theorem dtake_succ (ds : List Nat) (k : Nat) : D.val (ds.take (k + 1)) = D.val (ds.take k) + 65536 ^ k * lm ds k := by
  by_cases h : k < ds.length
  · exact D.take_succ_val ds k h
  · rw [List.take_of_length_le (by omega), List.take_of_length_le (by omega), lm_over _ _ (by omega)]; simp
theorem bb_pow (k : Nat) : BB ^ k = 65536 ^ (2 * k) := by rw [Nat.pow_mul]; rfl
theorem dlim_last {n : Nat} (h : 0 < (D.lim n).length) : lm (D.lim n) ((D.lim n).length - 1) ≠ 0 := by
  revert h
  refine D.lim_ind (p := fun n => 0 < (D.lim n).length → lm (D.lim n) ((D.lim n).length - 1) ≠ 0) (fun h => by simp [D.lim_zero] at h) (fun n hn ih _ => ?_) n
  rw [D.lim_pos hn]
  by_cases h0 : D.lim (n / D.BB) = []
  · rw [h0]
    have hz : n / D.BB = 0 := by rw [← D.val_lim (n / D.BB), h0]; rfl
    have : n % D.BB = n := Nat.mod_eq_of_lt ((Nat.div_eq_zero_iff_lt D.BB_pos).1 hz)
    simp [lm, this]; omega
  · have hp : 0 < (D.lim (n / D.BB)).length := List.length_pos_iff.2 h0
    have := ih hp
    obtain ⟨m, hm⟩ : ∃ m, (D.lim (n / D.BB)).length = m + 1 := ⟨_, (Nat.succ_pred_eq_of_pos hp).symm⟩
    rw [List.length_cons, hm] 
    rw [hm] at this
    simpa [lm] using this
end Go.Proofs.Ytgkibmigbjjnnaa

namespace Go.Proofs.Ytgkibmigbjjnnaa
open Go.RowKit


end Go.Proofs.Ytgkibmigbjjnnaa

namespace Go.Proofs.Ytgkibmigbjjnnaa
open Go.RowKit

end Go.Proofs.Ytgkibmigbjjnnaa

namespace Go.Proofs.Ytgkibmigbjjnnaa
open Go.RowKit

set_option maxRecDepth 100000 in
theorem rsign_any (v : Value) (z : Int) (w : World) (h : RInt w v z) :
    Calls Try.prog 51 #[v] w fun e w' => e = .returned (.int .i64 (sgnI z)) ∧ Below w.heap.size w w' := by
  obtain ⟨b, n, a, c, rfl, hn, rfl, h0⟩ := h
  by_cases hp : n = 0
  · subst hp
    have : b = false := h0 rfl
    subst this
    have e : sgnI (sg false 0) = 0 := rfl
    rw [e]
    have e2 : (D.lim 0).length = 0 := rfl
    rw [e2]
    clear hn h0
    go_enter Try.func51, Try.ntmps51
    go_wp2
    go_ret
    exact ⟨rfl, below_alloc _ _⟩
  · have hp' : 0 < (D.lim n).length := by rw [D.lim_pos (by omega)]; simp
    clear hn h0
    cases b with
    | true =>
      rw [show sgnI (sg true n) = -1 from if_pos (by rw [sg_true]; omega)]
      go_enter Try.func51, Try.ntmps51
      go_wp2
      go_ret
      exact ⟨rfl, below_alloc _ _⟩
    | false =>
      rw [show sgnI (sg false n) = 1 from by unfold sgnI; rw [if_neg (by rw [sg_false]; omega), if_neg (by rw [sg_false]; omega)]]
      go_enter Try.func51, Try.ntmps51
      go_wp2
      go_ret
      exact ⟨rfl, below_alloc _ _⟩

set_option maxRecDepth 100000 in
set_option maxHeartbeats 400000 in
theorem rneg_any (v : Value) (z : Int) (w : World) (h : RInt w v z) :
    Calls Try.prog 81 #[v] w fun e w' => ∃ v', e = .returned v' ∧ RInt w' v' (-z) ∧ Below w.heap.size w w' := by
  obtain ⟨b, n, a, c, rfl, hn, rfl, h0⟩ := h
  have HE := hide (nboxes2 57 w (.bool b) (.slice a (D.lim n).length c) (.bool false) (.slice none 0 0))
  have HN := hide (hn.below HE.out.2.2)
  clear hn h0
  go_enter Try.func81, Try.ntmps81
  go_wp2_with fail
  refine (rnorm2_any (!b) _ (D.lim n) _ HN.out (D.ok_lim n)).mono ?_
  rintro e w2 ⟨v, rfl, ⟨b', n', a', c', rfl, hn', he, h0⟩, hb2⟩
  rw [D.val_lim] at he
  have HX := hide (HE.out.2.1.step hb2)
  have HB := hide (HE.out.2.2.trans (hb2.mono HE.out.2.2.size))
  have hc0 := HX.out.cell0
  have hc1 := HX.out.cell1
  have hf0 := HX.out.free 0
  have hf1 := HX.out.free 1
  clear hb2
  go_wp2
  refine ret_ref rfl (w.heap.size + 1) _ _ _ _ rfl ((HX.out.set0 _).set1 _) rfl ?_
  exact ⟨_, rfl, ⟨b', n', a', c', rfl, keeps2 HX.out (by simp) (by simp) _ _ _ _ hn', by rw [← he, sg_neg], h0⟩, (HB.out.setCell (p := ⟨w.heap.size + 1, 0, none⟩) (by simp) _).setCell (p := ⟨w.heap.size + 1, 1, none⟩) (by simp) _⟩
set_option maxRecDepth 100000 in
set_option maxHeartbeats 400000 in
theorem rabs_any (v : Value) (z : Int) (w : World) (h : RInt w v z) :
    Calls Try.prog 84 #[v] w fun e w' => ∃ v', e = .returned v' ∧ RInt w' v' (z.natAbs : Int) ∧ Below w.heap.size w w' := by
  obtain ⟨b, n, a, c, rfl, hn, rfl, h0⟩ := h
  have HE := hide (nboxes2 57 w (.bool b) (.slice a (D.lim n).length c) (.bool false) (.slice none 0 0))
  have HN := hide (hn.below HE.out.2.2)
  clear hn h0
  go_enter Try.func84, Try.ntmps84
  go_wp2_with fail
  refine (rnorm2_any false _ (D.lim n) _ HN.out (D.ok_lim n)).mono ?_
  rintro e w2 ⟨v, rfl, ⟨b', n', a', c', rfl, hn', he, h0⟩, hb2⟩
  rw [D.val_lim] at he
  have HX := hide (HE.out.2.1.step hb2)
  have HB := hide (HE.out.2.2.trans (hb2.mono HE.out.2.2.size))
  have hc0 := HX.out.cell0
  have hc1 := HX.out.cell1
  have hf0 := HX.out.free 0
  have hf1 := HX.out.free 1
  clear hb2
  go_wp2
  refine ret_ref rfl (w.heap.size + 1) _ _ _ _ rfl ((HX.out.set0 _).set1 _) rfl ?_
  exact ⟨_, rfl, ⟨b', n', a', c', rfl, keeps2 HX.out (by simp) (by simp) _ _ _ _ hn', by rw [← he, sg_abs]; rfl, h0⟩, (HB.out.setCell (p := ⟨w.heap.size + 1, 0, none⟩) (by simp) _).setCell (p := ⟨w.heap.size + 1, 1, none⟩) (by simp) _⟩

theorem dval_lt_of_top : ∀ {xs ys : List Nat} {k : Nat}, xs.length = ys.length → D.Ok xs → D.Ok ys → k < xs.length → lm xs k < lm ys k → (∀ j, k + 1 ≤ j → lm xs j = lm ys j) → D.val xs < D.val ys := by
  intro xs
  induction xs with
  | nil => intro ys k _ _ _ h; simp at h
  | cons x xs ih =>
    intro ys k hl ho1 ho2 hk hlt htop
    cases ys with
    | nil => simp at hl
    | cons y ys =>
      have hx := ho1.head
      have hy := ho2.head
      simp only [D.val]
      cases k with
      | zero =>
        have he : xs = ys := lists_eq (by simpa using hl) (fun i _ => by simpa [lm] using htop (i + 1) (by omega))
        subst he
        have : x < y := by simpa [lm] using hlt
        omega
      | succ k =>
        have h1 : D.val xs < D.val ys := ih (k := k) (by simpa using hl) ho1.tail ho2.tail (by simpa using hk) (by simpa [lm] using hlt) (fun j hj => by simpa [lm] using htop (j + 1) (by omega))
        have h2 : D.BB * (D.val xs + 1) ≤ D.BB * D.val ys := Nat.mul_le_mul_left _ h1
        rw [Nat.mul_add, Nat.mul_one] at h2
        omega

set_option maxRecDepth 100000 in
set_option maxHeartbeats 1000000 in
theorem rsize_any (v1 v2 : Value) (m n : Nat) (w : World) (h1 : Nums w v1 (D.lim m)) (h2 : Nums w v2 (D.lim n)) :
    Calls Try.prog 87 #[v1, v2] w fun e w' => e = .returned (.int .i64 (cmpI m n)) ∧ Below w.heap.size w w' := by
  have HM := hide (D.val_lim m)
  have HN := hide (D.val_lim n)
  have HO1 := hide (D.ok_lim m)
  have HO2 := hide (D.ok_lim n)
  obtain ⟨ho1, a1, c1, rfl, hl1, hm1, hc1⟩ := h1
  obtain ⟨ho2, a2, c2, rfl, hl2, hm2, hc2⟩ := h2
  have HC1 := hide hc1
  have HC2 := hide hc2
  have HLL : Hid ((D.lim m).length < (D.lim n).length → m < n) := fun h => D.lim_len_lt h
  have HGG : Hid ((D.lim n).length < (D.lim m).length → n < m) := fun h => D.lim_len_lt h
  clear hc1 hc2 ho1 ho2
  unfold maxLen at hm1 hm2
  generalize D.lim m = L1 at *
  generalize D.lim n = L2 at *
  by_cases hA : L1.length < L2.length
  · rw [show cmpI m n = -1 from cmpI_lt (HLL.out hA)]
    have hne : (((L1.length : Nat) : Int) != ((L2.length : Nat) : Int)) = true := by simp; omega
    go_enter Try.func87, Try.ntmps87
    go_wp2
    go_ret
    exact ⟨rfl, Below.refl _ _⟩
  · by_cases hB : L2.length < L1.length
    · rw [show cmpI m n = 1 from cmpI_gt (HGG.out hB)]
      have hne : (((L1.length : Nat) : Int) != ((L2.length : Nat) : Int)) = true := by simp; omega
      go_enter Try.func87, Try.ntmps87
      go_wp2
      go_ret
      exact ⟨rfl, Below.refl _ _⟩
    · have HE : Hid (L1.length = L2.length) := by show L1.length = L2.length; omega
      have hne : (((L1.length : Nat) : Int) != ((L2.length : Nat) : Int)) = false := by simp; omega
      go_enter Try.func87, Try.ntmps87
      go_wp2
      go_loopw [5] (fun i wr => ∃ k : Nat, k ≤ L1.length ∧ i = .int .i64 ((k : Int) - 1) ∧ (∀ j, k ≤ j → lm L1 j = lm L2 j) ∧ Below w.heap.size w wr) (fun i _ => (intOf i + 1).toNat)
      case atStart => exact ⟨L1.length, Nat.le_refl _, by go_num, fun j hj => by rw [lm_over _ _ hj, lm_over _ _ (by have := HE.out; omega)], Below.refl _ _⟩
      case round =>
        obtain ⟨k, hk, rfl, hag, hbel⟩ := hrel
        have HA : Hid (∀ j, k ≤ j → lm L1 j = lm L2 j) := hag
        clear hag
        cases k with
        | zero =>
          go_wp2
          go_ret
          have hxy : L1 = L2 := lists_eq HE.out (fun i _ => HA.out i (Nat.zero_le _))
          have : m = n := by rw [← HM.out, ← HN.out, hxy]
          exact ⟨by subst this; rw [cmpI_eq]; rfl, hbel⟩
        | succ k =>
          have hk2 : k < L1.length := by omega
          have hk3 : k < L2.length := by omega
          obtain ⟨b1, o1, rfl, hx⟩ := HC1.out (ne_nil hk2)
          obtain ⟨b2, o2, rfl, hy⟩ := HC2.out (ne_nil hk3)
          have hx' : wr.cell? ⟨b1, o1 + k, none⟩ = some (.int .u32 (lm L1 k : Nat)) := by rw [hbel.cell (World.block_lt_of_cell? w _ (hx k hk2))]; exact hx k hk2
          have hy' : wr.cell? ⟨b2, o2 + k, none⟩ = some (.int .u32 (lm L2 k : Nat)) := by rw [hbel.cell (World.block_lt_of_cell? w _ (hy k hk3))]; exact hy k hk3
          clear hx hy HC1 HC2
          by_cases hlt : lm L1 k < lm L2 k
          · have hlt' : ((lm L1 k : Nat) : Int) < ((lm L2 k : Nat) : Int) := by omega
            go_wp2
            go_quiet (fail)
            go_wp2
            go_ret
            have : m < n := by rw [← HM.out, ← HN.out]; exact dval_lt_of_top HE.out HO1.out HO2.out hk2 hlt HA.out
            exact ⟨by rw [cmpI_lt this]; rfl, below_drewN hbel _⟩
          · by_cases hgt : lm L2 k < lm L1 k
            · have hlt' : ¬ ((lm L1 k : Nat) : Int) < ((lm L2 k : Nat) : Int) := by omega
              have hgt' : ((lm L2 k : Nat) : Int) < ((lm L1 k : Nat) : Int) := by omega
              go_wp2
              go_quiet (fail)
              go_wp2
              go_quiet (fail)
              go_wp2
              go_ret
              have h3 : n < m := by rw [← HM.out, ← HN.out]; exact dval_lt_of_top HE.out.symm HO2.out HO1.out hk3 hgt (fun j hj => (HA.out j hj).symm)
              exact ⟨by rw [cmpI_gt h3]; rfl, by first | exact below_drewN hbel _ | exact below_drewN (below_drewN hbel _) _⟩
            · have HEK : Hid (lm L1 k = lm L2 k) := by show lm L1 k = lm L2 k; omega
              have hlt' : ¬ ((lm L1 k : Nat) : Int) < ((lm L2 k : Nat) : Int) := by omega
              have hgt' : ¬ ((lm L2 k : Nat) : Int) < ((lm L1 k : Nat) : Int) := by omega
              go_wp2
              go_quiet (fail)
              go_wp2
              go_quiet (fail)
              go_wp2
              go_roundw
              case rel => exact ⟨k, by omega, by go_num, fun j hj => by rcases Nat.lt_or_eq_of_le hj with h | rfl; exact HA.out j h; exact HEK.out, by first | exact below_drewN hbel _ | exact below_drewN (below_drewN hbel _) _⟩
              case measure => simp [intOf]

end Go.Proofs.Ytgkibmigbjjnnaa

namespace Go.Proofs.Ytgkibmigbjjnnaa
open Go.RowKit

end Go.Proofs.Ytgkibmigbjjnnaa

namespace Go.Proofs.Ytgkibmigbjjnnaa
open Go.RowKit

/-- a number's digits so far, and what is left of it -/
structure OfAt (A u : Nat) (acc : List Nat) : Prop where
  ok : D.Ok acc
  len : acc.length ≤ 4
  lt : u < 65536 ^ (4 - acc.length)
  sum : D.val acc + 65536 ^ acc.length * u = A
theorem OfAt.start (A : Nat) (h : A < 18446744073709551616) : OfAt A A [] := ⟨D.Ok.nil, by simp, by simpa using h, by simp [D.val]⟩
theorem OfAt.less {A u : Nat} {acc : List Nat} (h : OfAt A u acc) (hu : 0 < u) : acc.length < 4 := by
  rcases Nat.lt_or_ge acc.length 4 with k | k
  · exact k
  · have := h.lt; rw [show 4 - acc.length = 0 from by omega] at this; simp at this; omega
theorem OfAt.step {A u : Nat} {acc : List Nat} (h : OfAt A u acc) (hu : 0 < u) : OfAt A (u / 65536) (acc ++ [u % 65536]) := by
  have hl := h.less hu
  refine ⟨h.ok.append (D.Ok.cons (Nat.mod_lt _ (by decide)) D.Ok.nil), by simp; omega, ?_, ?_⟩
  · have := h.lt
    rw [List.length_append, List.length_singleton, Nat.div_lt_iff_lt_mul (by decide), ← Nat.pow_succ, show (4 - (acc.length + 1)).succ = 4 - acc.length from by omega]
    exact this
  · rw [D.val_append, ← h.sum, List.length_append, List.length_singleton, Nat.pow_succ]
    simp only [D.val, Nat.mul_zero, Nat.add_zero]
    show D.val acc + 65536 ^ acc.length * (u % 65536) + 65536 ^ acc.length * 65536 * (u / 65536) = _
    rw [Nat.mul_assoc, Nat.add_assoc, ← Nat.mul_add, Nat.mod_add_div]

set_option maxRecDepth 100000 in
set_option maxHeartbeats 2000000 in
theorem rof_any (z : Int) (w : World) (hlo : -9223372036854775808 ≤ z) (hhi : z ≤ 9223372036854775807) :
    Calls Try.prog 53 #[.int .i64 z] w fun e w' => ∃ v, e = .returned v ∧ RInt w' v z ∧ Below w.heap.size w w' := by
  obtain ⟨i0, hi, hz0, hz1, hz2⟩ := info_parts Try.info84
  have HL := hide hlo
  have HH := hide hhi
  obtain ⟨A, hA⟩ : ∃ A, A = z.natAbs := ⟨_, rfl⟩
  have HA := hide hA
  have HAB : Hid (A < 18446744073709551616) := hide (by omega)
  clear hA
  by_cases neg : z < 0
  · have HNG := hide neg
    have huA : IntKind.u64.wrap (-IntKind.u64.wrap z) = (A : Int) := by rw [HA.out, IntKind.wrap_u64, IntKind.wrap_u64]; omega
    go_enter Try.func53, Try.ntmps53
    go_wp2
    clear huA
    go_loopw [3, 4] (fun uv dv wr => ∃ (u : Nat) (acc : List Nat), uv = .int .u64 u ∧ u < 18446744073709551616 ∧ OfAt A u acc ∧ Own wr (w.heap.size + 1) dv acc ∧ Below (w.heap.size + 1) (w.alloc (.cells #[.bool false, .slice none 0 0] 57)) wr) (fun uv _ _ => (intOf uv).toNat)
    case atStart => exact ⟨A, [], rfl, HAB.out, OfAt.start A HAB.out, World.ownsRow_nil _ _ _ _, Below.refl _ _⟩
    case round =>
      obtain ⟨u, acc, rfl, hub, hat, hO, hbel⟩ := hrel
      have HAT := hide hat
      have HO := hide hO
      have HBE := hide hbel
      clear hat hO hbel
      by_cases hu : 0 < u
      · have hln := HAT.out.less hu
        have hbs := HBE.out.size
        rw [World.size_alloc] at hbs
        have huI : (u : Int) < 18446744073709551616 := by omega
        have HUB := hide hub
        clear hub
        go_wp2_with (at_builtin; refine wpList_append_own _ rfl _ _ 23 rfl (w.heap.size + 1) 84 i0 (.int .u32 0) 1 4 Try.underlying23 hi hz0 hz1 hz2 rfl (by decide) _ _ _ rfl (World.ownsRow.alloc HO.out _) ⟨_, 0, none⟩ 1 1 [.int .u32 (((u : Int) % 65536))] rfl rfl ?_ ?_ ?_ ?_ ?_ ?_)
        · intro i u hi'
          match i, hi' with
          | 0, hi' => simp at hi'; subst hi'; simp [Addr.add]
        · intro u hu; simp at hu; subst hu; rfl
        · unfold maxLen; omega
        · omega
        · simp; omega
        · intro v6 w6 hown6 hgrow6 _
          obtain ⟨hO6, hB6⟩ := own_step (n := u % 65536) (by omega) HO.out hown6 hgrow6 HBE.out hbs (Nat.le_refl _)
          have HO6 := hide hO6
          have HB6 := hide hB6
          clear hown6 hgrow6 hO6 hB6
          go_wp2
          go_roundw
          case rel => exact ⟨u / 65536, _, congrArg (Value.int .u64) (by omega), by have := HUB.out; omega, HAT.out.step hu, HO6.out, HB6.out⟩
          case measure => simp [intOf]; omega
      · have e : u = 0 := by omega
        subst e
        have HR := hide ((Box2.new w _ _ _).below HBE.out (Nat.lt_succ_self _))
        have HNd := hide (HO.out.nums (dok HAT.out.ok))
        have HB1 := hide ((below_alloc w _).trans (HBE.out.mono (Nat.le_succ _)))
        have HV : Hid (D.val acc = A) := hide (by have := HAT.out.sum; simpa using this)
        go_wp2_with fail
        refine (rnorm2_any true _ acc _ HNd.out HAT.out.ok).mono ?_
        rintro e w2 ⟨v2, rfl, hr2, hb2⟩
        rw [HV.out] at hr2
        obtain ⟨b', n', a', c', rfl, hn', he, h0⟩ := hr2
        replace HR := hide (HR.out.step hb2)
        replace HB1 := hide (HB1.out.trans (hb2.mono HB1.out.size))
        have hc0 := HR.out.cell0
        have hc1 := HR.out.cell1
        have hf0 := HR.out.free 0
        have hf1 := HR.out.free 1
        clear hb2
        go_wp2
        refine ret_ref rfl w.heap.size _ _ _ _ rfl ((HR.out.set0 _).set1 _) rfl ?_
        exact ⟨_, rfl, ⟨b', n', a', c', rfl, keeps2 HR.out (by simp) (by simp) _ _ _ _ hn', by rw [← he]; have := HA.out; have := HNG.out; rw [sg_true]; omega, h0⟩, (HB1.out.setCell (p := ⟨w.heap.size, 0, none⟩) (Nat.le_refl _) _).setCell (p := ⟨w.heap.size, 1, none⟩) (Nat.le_refl _) _⟩
  · have HNG := hide neg
    have huA : z = (A : Int) := by have := HA.out; omega
    subst huA
    go_enter Try.func53, Try.ntmps53
    go_wp2
    go_loopw [3, 4] (fun uv dv wr => ∃ (u : Nat) (acc : List Nat), uv = .int .u64 u ∧ u < 18446744073709551616 ∧ OfAt A u acc ∧ Own wr (w.heap.size + 1) dv acc ∧ Below (w.heap.size + 1) (w.alloc (.cells #[.bool false, .slice none 0 0] 57)) wr) (fun uv _ _ => (intOf uv).toNat)
    case atStart => exact ⟨A, [], rfl, HAB.out, OfAt.start A HAB.out, World.ownsRow_nil _ _ _ _, Below.refl _ _⟩
    case round =>
      obtain ⟨u, acc, rfl, hub, hat, hO, hbel⟩ := hrel
      have HAT := hide hat
      have HO := hide hO
      have HBE := hide hbel
      clear hat hO hbel
      by_cases hu : 0 < u
      · have hln := HAT.out.less hu
        have hbs := HBE.out.size
        rw [World.size_alloc] at hbs
        have huI : (u : Int) < 18446744073709551616 := by omega
        have HUB := hide hub
        clear hub
        go_wp2_with (at_builtin; refine wpList_append_own _ rfl _ _ 23 rfl (w.heap.size + 1) 84 i0 (.int .u32 0) 1 4 Try.underlying23 hi hz0 hz1 hz2 rfl (by decide) _ _ _ rfl (World.ownsRow.alloc HO.out _) ⟨_, 0, none⟩ 1 1 [.int .u32 (((u : Int) % 65536))] rfl rfl ?_ ?_ ?_ ?_ ?_ ?_)
        · intro i u hi'
          match i, hi' with
          | 0, hi' => simp at hi'; subst hi'; simp [Addr.add]
        · intro u hu; simp at hu; subst hu; rfl
        · unfold maxLen; omega
        · omega
        · simp; omega
        · intro v6 w6 hown6 hgrow6 _
          obtain ⟨hO6, hB6⟩ := own_step (n := u % 65536) (by omega) HO.out hown6 hgrow6 HBE.out hbs (Nat.le_refl _)
          have HO6 := hide hO6
          have HB6 := hide hB6
          clear hown6 hgrow6 hO6 hB6
          go_wp2
          go_roundw
          case rel => exact ⟨u / 65536, _, congrArg (Value.int .u64) (by omega), by have := HUB.out; omega, HAT.out.step hu, HO6.out, HB6.out⟩
          case measure => simp [intOf]; omega
      · have e : u = 0 := by omega
        subst e
        have HR := hide ((Box2.new w _ _ _).below HBE.out (Nat.lt_succ_self _))
        have HNd := hide (HO.out.nums (dok HAT.out.ok))
        have HB1 := hide ((below_alloc w _).trans (HBE.out.mono (Nat.le_succ _)))
        have HV : Hid (D.val acc = A) := hide (by have := HAT.out.sum; simpa using this)
        go_wp2_with fail
        refine (rnorm2_any false _ acc _ HNd.out HAT.out.ok).mono ?_
        rintro e w2 ⟨v2, rfl, hr2, hb2⟩
        rw [HV.out] at hr2
        obtain ⟨b', n', a', c', rfl, hn', he, h0⟩ := hr2
        replace HR := hide (HR.out.step hb2)
        replace HB1 := hide (HB1.out.trans (hb2.mono HB1.out.size))
        have hc0 := HR.out.cell0
        have hc1 := HR.out.cell1
        have hf0 := HR.out.free 0
        have hf1 := HR.out.free 1
        clear hb2
        go_wp2
        refine ret_ref rfl w.heap.size _ _ _ _ rfl ((HR.out.set0 _).set1 _) rfl ?_
        exact ⟨_, rfl, ⟨b', n', a', c', rfl, keeps2 HR.out (by simp) (by simp) _ _ _ _ hn', by rw [← he, sg_false], h0⟩, (HB1.out.setCell (p := ⟨w.heap.size, 0, none⟩) (Nat.le_refl _) _).setCell (p := ⟨w.heap.size, 1, none⟩) (Nat.le_refl _) _⟩
end Go.Proofs.Ytgkibmigbjjnnaa

namespace Go.Proofs.Ytgkibmigbjjnnaa
open Go.RowKit

/-- a sum's state behind k digits -/
structure PlusAt (xs ys : List Nat) (k c : Nat) (acc : List Nat) : Prop where
  len : acc.length = k
  ok : D.Ok acc
  c1 : c ≤ 1
  sum : D.val acc + 65536 ^ k * c = D.val (xs.take k) + D.val (ys.take k)
theorem PlusAt.start (xs ys : List Nat) : PlusAt xs ys 0 0 [] := ⟨rfl, D.Ok.nil, by decide, by simp [D.val]⟩
theorem PlusAt.step {xs ys : List Nat} {k c : Nat} {acc : List Nat} (h : PlusAt xs ys k c acc) (hx : D.Ok xs) (hy : D.Ok ys) : PlusAt xs ys (k + 1) ((c + lm xs k + lm ys k) / 65536) (acc ++ [(c + lm xs k + lm ys k) % 65536]) := by
  have h1 := dlm_lt hx k
  have h2 := dlm_lt hy k
  have h3 := h.c1
  refine ⟨by rw [List.length_append, h.len]; rfl, h.ok.append (D.Ok.cons (Nat.mod_lt _ (by decide)) D.Ok.nil), by omega, ?_⟩
  rw [D.val_append, h.len, dtake_succ, dtake_succ, Nat.pow_succ]
  simp only [D.val, Nat.mul_zero, Nat.add_zero]
  show D.val acc + 65536 ^ k * ((c + lm xs k + lm ys k) % 65536) + 65536 ^ k * 65536 * ((c + lm xs k + lm ys k) / 65536) = _
  have e := Nat.mod_add_div (c + lm xs k + lm ys k) 65536
  have e1 : 65536 ^ k * ((c + lm xs k + lm ys k) % 65536) + 65536 ^ k * 65536 * ((c + lm xs k + lm ys k) / 65536) = 65536 ^ k * c + 65536 ^ k * lm xs k + 65536 ^ k * lm ys k := by
    rw [Nat.mul_assoc, ← Nat.mul_add, e, Nat.mul_add, Nat.mul_add]
  have := h.sum
  omega
theorem PlusAt.last {xs ys : List Nat} {k : Nat} {acc : List Nat} (h : PlusAt xs ys k 0 acc) (h1 : xs.length ≤ k) (h2 : ys.length ≤ k) : D.val acc = D.val xs + D.val ys := by
  have := h.sum
  rw [List.take_of_length_le h1, List.take_of_length_le h2] at this
  simpa using this

set_option maxRecDepth 100000 in
set_option maxHeartbeats 4000000 in
theorem rplus_any (v1 v2 : Value) (xs ys : List Nat) (w : World) (h1 : Nums w v1 xs) (h2 : Nums w v2 ys) (hx : D.Ok xs) (hy : D.Ok ys) (b1 : xs.length ≤ 100000000) (b2 : ys.length ≤ 100000000) :
    Calls Try.prog 102 #[v1, v2] w fun e w' => ∃ v' acc, e = .returned v' ∧ Nums w' v' acc ∧ D.Ok acc ∧ D.val acc = D.val xs + D.val ys ∧ Below w.heap.size w w' := by
  obtain ⟨i0, hi, hz0, hz1, hz2⟩ := info_parts Try.info84
  have HX := hide hx
  have HY := hide hy
  have HN1 := hide h1
  have HN2 := hide h2
  obtain ⟨_, a1, c1, rfl, _, hm1, _⟩ := h1
  obtain ⟨_, a2, c2, rfl, _, hm2, _⟩ := h2
  clear hx hy
  unfold maxLen at hm1 hm2
  go_enter Try.func102, Try.ntmps102
  go_wp2
  go_loopw [5, 6, 7] (fun ov cv iv wr => ∃ (k c : Nat) (acc : List Nat), k ≤ xs.length + ys.length + 1 ∧ iv = .int .i64 k ∧ cv = .int .u32 c ∧ c ≤ 1 ∧ Hid (c = 0 ∨ k ≤ xs.length ∨ k ≤ ys.length) ∧ PlusAt xs ys k c acc ∧ Own wr w.heap.size ov acc ∧ Below w.heap.size w wr) (fun _ cv iv _ => 2 * (xs.length + ys.length) + 3 - 2 * (intOf iv).toNat + (intOf cv).toNat)
  case atStart => exact ⟨0, 0, [], by omega, rfl, rfl, by omega, .inl rfl, PlusAt.start xs ys, World.ownsRow_nil _ _ _ _, Below.refl _ _⟩
  case round =>
    obtain ⟨k, c, acc, hk, rfl, rfl, hc1, HD, hat, hO, hbel⟩ := hrel
    have HAT := hide hat
    have HO := hide hO
    have HBE := hide hbel
    have hal : acc.length ≤ 200000001 := by rw [hat.len]; omega
    have hdx := dlm_lt HX.out k
    have hdy := dlm_lt HY.out k
    have hbs := hbel.size
    clear hat hO hbel
    by_cases hlx : k < xs.length
    · obtain ⟨B1, o1, rfl, hc1'⟩ : ∃ B o, a1 = some ⟨B, o, none⟩ ∧ wr.cell? ⟨B, o + k, none⟩ = some (.int .u32 (lm xs k : Nat)) := by
        obtain ⟨_, a', c', he, _, _, h3⟩ := HN1.out.below HBE.out
        simp only [Value.slice.injEq] at he
        obtain ⟨rfl, _, rfl⟩ := he
        obtain ⟨b, off, rfl, hc⟩ := h3 (ne_nil hlx)
        exact ⟨b, off, rfl, hc k hlx⟩
      by_cases hly : k < ys.length
      · obtain ⟨B2, o2, rfl, hc2'⟩ : ∃ B o, a2 = some ⟨B, o, none⟩ ∧ wr.cell? ⟨B, o + k, none⟩ = some (.int .u32 (lm ys k : Nat)) := by
          obtain ⟨_, a', c', he, _, _, h3⟩ := HN2.out.below HBE.out
          simp only [Value.slice.injEq] at he
          obtain ⟨rfl, _, rfl⟩ := he
          obtain ⟨b, off, rfl, hc⟩ := h3 (ne_nil hly)
          exact ⟨b, off, rfl, hc k hly⟩
        go_wp2_with (at_builtin; refine wpList_append_own _ rfl _ _ 23 rfl w.heap.size 84 i0 (.int .u32 0) 1 4 Try.underlying23 hi hz0 hz1 hz2 rfl (by decide) _ _ _ rfl (World.ownsRow.alloc HO.out _) ⟨_, 0, none⟩ 1 1 [.int .u32 (((c : Int) + (lm xs k : Int) + (lm ys k : Int)) % 65536)] rfl rfl ?_ ?_ ?_ ?_ ?_ ?_)
        · intro i u hi'
          match i, hi' with
          | 0, hi' => simp at hi'; subst hi'; simp [Addr.add]
        · intro u hu; simp at hu; subst hu; rfl
        · unfold maxLen; omega
        · omega
        · simp; omega
        · intro v6 w6 hown6 hgrow6 _
          obtain ⟨hO6, hB6⟩ := own_step (n := (c + lm xs k + lm ys k) % 65536) (by omega) HO.out hown6 hgrow6 HBE.out hbs (Nat.le_refl _)
          have HO6 := hide hO6
          have HB6 := hide hB6
          clear hown6 hgrow6 hO6 hB6
          go_wp2
          go_roundw
          case rel => exact ⟨k + 1, (c + lm xs k + lm ys k) / 65536, _, by omega, by go_num, congrArg (Value.int .u32) (by omega), by omega, .inr (.inl (by omega)), HAT.out.step HX.out HY.out, HO6.out, HB6.out⟩
          case measure => simp [intOf]; omega
      · have HZY := hide (lm_over ys k (by omega))
        go_wp2_with (at_builtin; refine wpList_append_own _ rfl _ _ 23 rfl w.heap.size 84 i0 (.int .u32 0) 1 4 Try.underlying23 hi hz0 hz1 hz2 rfl (by decide) _ _ _ rfl (World.ownsRow.alloc HO.out _) ⟨_, 0, none⟩ 1 1 [.int .u32 (((c : Int) + (lm xs k : Int)) % 65536)] rfl rfl ?_ ?_ ?_ ?_ ?_ ?_)
        · intro i u hi'
          match i, hi' with
          | 0, hi' => simp at hi'; subst hi'; simp [Addr.add]
        · intro u hu; simp at hu; subst hu; rfl
        · unfold maxLen; omega
        · omega
        · simp; omega
        · intro v6 w6 hown6 hgrow6 _
          obtain ⟨hO6, hB6⟩ := own_step (n := (c + lm xs k + lm ys k) % 65536) (by have := HZY.out; omega) HO.out hown6 hgrow6 HBE.out hbs (Nat.le_refl _)
          have HO6 := hide hO6
          have HB6 := hide hB6
          clear hown6 hgrow6 hO6 hB6
          go_wp2
          go_roundw
          case rel => exact ⟨k + 1, (c + lm xs k + lm ys k) / 65536, _, by omega, by go_num, congrArg (Value.int .u32) (by have := HZY.out; omega), by omega, .inr (.inl (by omega)), HAT.out.step HX.out HY.out, HO6.out, HB6.out⟩
          case measure => simp [intOf]; omega
    · by_cases hly : k < ys.length
      · obtain ⟨B2, o2, rfl, hc2'⟩ : ∃ B o, a2 = some ⟨B, o, none⟩ ∧ wr.cell? ⟨B, o + k, none⟩ = some (.int .u32 (lm ys k : Nat)) := by
          obtain ⟨_, a', c', he, _, _, h3⟩ := HN2.out.below HBE.out
          simp only [Value.slice.injEq] at he
          obtain ⟨rfl, _, rfl⟩ := he
          obtain ⟨b, off, rfl, hc⟩ := h3 (ne_nil hly)
          exact ⟨b, off, rfl, hc k hly⟩
        have HZX := hide (lm_over xs k (by omega))
        go_wp2_with (at_builtin; refine wpList_append_own _ rfl _ _ 23 rfl w.heap.size 84 i0 (.int .u32 0) 1 4 Try.underlying23 hi hz0 hz1 hz2 rfl (by decide) _ _ _ rfl (World.ownsRow.alloc HO.out _) ⟨_, 0, none⟩ 1 1 [.int .u32 (((c : Int) + (lm ys k : Int)) % 65536)] rfl rfl ?_ ?_ ?_ ?_ ?_ ?_)
        · intro i u hi'
          match i, hi' with
          | 0, hi' => simp at hi'; subst hi'; simp [Addr.add]
        · intro u hu; simp at hu; subst hu; rfl
        · unfold maxLen; omega
        · omega
        · simp; omega
        · intro v6 w6 hown6 hgrow6 _
          obtain ⟨hO6, hB6⟩ := own_step (n := (c + lm xs k + lm ys k) % 65536) (by have := HZX.out; omega) HO.out hown6 hgrow6 HBE.out hbs (Nat.le_refl _)
          have HO6 := hide hO6
          have HB6 := hide hB6
          clear hown6 hgrow6 hO6 hB6
          go_wp2
          go_roundw
          case rel => exact ⟨k + 1, (c + lm xs k + lm ys k) / 65536, _, by omega, by go_num, congrArg (Value.int .u32) (by have := HZX.out; omega), by omega, .inr (.inr (by omega)), HAT.out.step HX.out HY.out, HO6.out, HB6.out⟩
          case measure => simp [intOf]; omega
      · by_cases hc0 : 0 < c
        · have HZX := hide (lm_over xs k (by omega))
          have HZY := hide (lm_over ys k (by omega))
          go_wp2_with (at_builtin; refine wpList_append_own _ rfl _ _ 23 rfl w.heap.size 84 i0 (.int .u32 0) 1 4 Try.underlying23 hi hz0 hz1 hz2 rfl (by decide) _ _ _ rfl (World.ownsRow.alloc HO.out _) ⟨_, 0, none⟩ 1 1 [.int .u32 (((c : Int)) % 65536)] rfl rfl ?_ ?_ ?_ ?_ ?_ ?_)
          · intro i u hi'
            match i, hi' with
            | 0, hi' => simp at hi'; subst hi'; simp [Addr.add]
          · intro u hu; simp at hu; subst hu; rfl
          · unfold maxLen; omega
          · omega
          · simp; omega
          · intro v6 w6 hown6 hgrow6 _
            obtain ⟨hO6, hB6⟩ := own_step (n := (c + lm xs k + lm ys k) % 65536) (by have := HZX.out; have := HZY.out; omega) HO.out hown6 hgrow6 HBE.out hbs (Nat.le_refl _)
            have HO6 := hide hO6
            have HB6 := hide hB6
            clear hown6 hgrow6 hO6 hB6
            go_wp2
            go_roundw
            case rel => exact ⟨k + 1, (c + lm xs k + lm ys k) / 65536, _, by rcases HD.out with h | h | h <;> omega, by go_num, congrArg (Value.int .u32) (by have := HZX.out; have := HZY.out; omega), by omega, .inl (by have := HZX.out; have := HZY.out; omega), HAT.out.step HX.out HY.out, HO6.out, HB6.out⟩
            case measure => simp [intOf]; omega
        · have e : c = 0 := by omega
          subst e
          go_wp2
          go_ret
          exact ⟨_, rfl, acc, HO.out.nums (dok HAT.out.ok), HAT.out.ok, HAT.out.last (by omega) (by omega), HBE.out⟩

/-- a difference's state behind k digits -/
structure MinusAt (xs ys : List Nat) (k b : Nat) (acc : List Nat) : Prop where
  len : acc.length = k
  ok : D.Ok acc
  b1 : b ≤ 1
  sum : D.val acc + D.val (ys.take k) = D.val (xs.take k) + 65536 ^ k * b
theorem MinusAt.start (xs ys : List Nat) : MinusAt xs ys 0 0 [] := ⟨rfl, D.Ok.nil, by decide, by simp [D.val]⟩
theorem MinusAt.yes {xs ys : List Nat} {k b : Nat} {acc : List Nat} (h : MinusAt xs ys k b acc) (hx : D.Ok xs) (hy : D.Ok ys) (hlt : lm xs k < b + lm ys k) : MinusAt xs ys (k + 1) 1 (acc ++ [lm xs k + 65536 - (b + lm ys k)]) := by
  have h1 := dlm_lt hx k
  have h2 := dlm_lt hy k
  have h3 := h.b1
  refine ⟨by rw [List.length_append, h.len]; rfl, h.ok.append (D.Ok.cons (by unfold D.BB; omega) D.Ok.nil), by omega, ?_⟩
  rw [D.val_append, h.len, dtake_succ, dtake_succ, Nat.pow_succ]
  simp only [D.val, Nat.mul_zero, Nat.add_zero]
  show D.val acc + 65536 ^ k * (lm xs k + 65536 - (b + lm ys k)) + (D.val (ys.take k) + 65536 ^ k * lm ys k) = D.val (xs.take k) + 65536 ^ k * lm xs k + 65536 ^ k * 65536 * 1
  obtain ⟨d, hd⟩ : ∃ d, d + (b + lm ys k) = lm xs k + 65536 := ⟨lm xs k + 65536 - (b + lm ys k), by omega⟩
  rw [← hd, Nat.add_sub_cancel, Nat.mul_one]
  have e : 65536 ^ k * d + (65536 ^ k * b + 65536 ^ k * lm ys k) = 65536 ^ k * lm xs k + 65536 ^ k * 65536 := by rw [← Nat.mul_add, ← Nat.mul_add, hd, Nat.mul_add]
  have := h.sum
  omega
theorem MinusAt.no {xs ys : List Nat} {k b : Nat} {acc : List Nat} (h : MinusAt xs ys k b acc) (hx : D.Ok xs) (hy : D.Ok ys) (hlt : ¬ lm xs k < b + lm ys k) : MinusAt xs ys (k + 1) 0 (acc ++ [lm xs k - (b + lm ys k)]) := by
  have h1 := dlm_lt hx k
  have h2 := dlm_lt hy k
  refine ⟨by rw [List.length_append, h.len]; rfl, h.ok.append (D.Ok.cons (by unfold D.BB; omega) D.Ok.nil), by omega, ?_⟩
  rw [D.val_append, h.len, dtake_succ, dtake_succ]
  simp only [D.val, Nat.mul_zero, Nat.add_zero]
  show D.val acc + 65536 ^ k * (lm xs k - (b + lm ys k)) + (D.val (ys.take k) + 65536 ^ k * lm ys k) = D.val (xs.take k) + 65536 ^ k * lm xs k
  obtain ⟨d, hd⟩ : ∃ d, d + (b + lm ys k) = lm xs k := ⟨lm xs k - (b + lm ys k), by omega⟩
  rw [← hd, Nat.add_sub_cancel]
  have e : 65536 ^ k * d + (65536 ^ k * b + 65536 ^ k * lm ys k) = 65536 ^ k * (d + (b + lm ys k)) := by rw [← Nat.mul_add, ← Nat.mul_add]
  have := h.sum
  omega
theorem MinusAt.last {xs ys : List Nat} {b : Nat} {acc : List Nat} (h : MinusAt xs ys xs.length b acc) (hl : ys.length ≤ xs.length) (hle : D.val ys ≤ D.val xs) : D.val acc = D.val xs - D.val ys := by
  have h1 := h.sum
  rw [List.take_length, List.take_of_length_le hl] at h1
  have h2 := D.val_lt h.ok
  rw [h.len] at h2
  have h3 : D.BB ^ xs.length = 65536 ^ xs.length := rfl
  rcases Nat.le_one_iff_eq_zero_or_eq_one.1 h.b1 with e | e
  · rw [e, Nat.mul_zero] at h1; omega
  · rw [e, Nat.mul_one] at h1; omega

set_option maxRecDepth 100000 in
set_option maxHeartbeats 4000000 in
theorem rminus_own (v1 v2 : Value) (xs ys : List Nat) (w : World) (h1 : Nums w v1 xs) (h2 : Nums w v2 ys) (hx : D.Ok xs) (hy : D.Ok ys) (b1 : xs.length ≤ 100000000) (hl : ys.length ≤ xs.length) (hle : D.val ys ≤ D.val xs) :
    Calls Try.prog 88 #[v1, v2] w fun e w' => ∃ v' acc, e = .returned v' ∧ Own w' w.heap.size v' acc ∧ D.Ok acc ∧ D.val acc = D.val xs - D.val ys ∧ Below w.heap.size w w' := by
  obtain ⟨i0, hi, hz0, hz1, hz2⟩ := info_parts Try.info84
  have HX := hide hx
  have HY := hide hy
  have HLY := hide hl
  have HLE := hide hle
  have HN1 := hide h1
  have HN2 := hide h2
  obtain ⟨_, a1, c1, rfl, _, hm1, _⟩ := h1
  obtain ⟨_, a2, c2, rfl, _, hm2, _⟩ := h2
  clear hx hy hle
  unfold maxLen at hm1 hm2
  go_enter Try.func88, Try.ntmps88
  go_wp2
  go_loopw [5, 6, 7] (fun ov cv iv wr => ∃ (k c : Nat) (acc : List Nat), k ≤ xs.length ∧ iv = .int .i64 k ∧ cv = .int .u32 c ∧ c ≤ 1 ∧ MinusAt xs ys k c acc ∧ Own wr w.heap.size ov acc ∧ Below w.heap.size w wr) (fun _ _ iv _ => xs.length - (intOf iv).toNat)
  case atStart => exact ⟨0, 0, [], by omega, rfl, rfl, by omega, MinusAt.start xs ys, World.ownsRow_nil _ _ _ _, Below.refl _ _⟩
  case round =>
    obtain ⟨k, c, acc, hk, rfl, rfl, hc1, hat, hO, hbel⟩ := hrel
    have HAT := hide hat
    have HO := hide hO
    have HBE := hide hbel
    have hal : acc.length ≤ 100000001 := by rw [hat.len]; omega
    have hdx := dlm_lt HX.out k
    have hdy := dlm_lt HY.out k
    have hbs := hbel.size
    clear hat hO hbel
    by_cases hlx : k < xs.length
    · obtain ⟨B1, o1, rfl, hc1'⟩ : ∃ B o, a1 = some ⟨B, o, none⟩ ∧ wr.cell? ⟨B, o + k, none⟩ = some (.int .u32 (lm xs k : Nat)) := by
        obtain ⟨_, a', c', he, _, _, h3⟩ := HN1.out.below HBE.out
        simp only [Value.slice.injEq] at he
        obtain ⟨rfl, _, rfl⟩ := he
        obtain ⟨b, off, rfl, hc⟩ := h3 (ne_nil hlx)
        exact ⟨b, off, rfl, hc k hlx⟩
      by_cases hly : k < ys.length
      · obtain ⟨B2, o2, rfl, hc2'⟩ : ∃ B o, a2 = some ⟨B, o, none⟩ ∧ wr.cell? ⟨B, o + k, none⟩ = some (.int .u32 (lm ys k : Nat)) := by
          obtain ⟨_, a', c', he, _, _, h3⟩ := HN2.out.below HBE.out
          simp only [Value.slice.injEq] at he
          obtain ⟨rfl, _, rfl⟩ := he
          obtain ⟨b, off, rfl, hc⟩ := h3 (ne_nil hly)
          exact ⟨b, off, rfl, hc k hly⟩
        by_cases hbo : lm xs k < c + lm ys k
        · have hboI : (lm xs k : Int) < (c : Int) + (lm ys k : Int) := by omega
          go_wp2_with (at_builtin; refine wpList_append_own _ rfl _ _ 23 rfl w.heap.size 84 i0 (.int .u32 0) 1 4 Try.underlying23 hi hz0 hz1 hz2 rfl (by decide) _ _ _ rfl (World.ownsRow.alloc HO.out _) ⟨_, 0, none⟩ 1 1 [.int .u32 ((lm xs k : Int) + 65536 - ((c : Int) + (lm ys k : Int)))] rfl rfl ?_ ?_ ?_ ?_ ?_ ?_)
          · intro i u hi'
            match i, hi' with
            | 0, hi' => simp at hi'; subst hi'; simp [Addr.add]
          · intro u hu; simp at hu; subst hu; rfl
          · unfold maxLen; omega
          · omega
          · simp; omega
          · intro v6 w6 hown6 hgrow6 _
            obtain ⟨hO6, hB6⟩ := own_step (n := lm xs k + 65536 - (c + lm ys k)) (by omega) HO.out hown6 hgrow6 HBE.out hbs (Nat.le_refl _)
            have HO6 := hide hO6
            have HB6 := hide hB6
            clear hown6 hgrow6 hO6 hB6
            go_wp2
            go_roundw
            case rel => exact ⟨k + 1, 1, _, by omega, by go_num, rfl, by omega, HAT.out.yes HX.out HY.out (by omega), HO6.out, HB6.out⟩
            case measure => simp [intOf]; omega
        · have hboI : ¬ (lm xs k : Int) < (c : Int) + (lm ys k : Int) := by omega
          go_wp2_with (at_builtin; refine wpList_append_own _ rfl _ _ 23 rfl w.heap.size 84 i0 (.int .u32 0) 1 4 Try.underlying23 hi hz0 hz1 hz2 rfl (by decide) _ _ _ rfl (World.ownsRow.alloc HO.out _) ⟨_, 0, none⟩ 1 1 [.int .u32 ((lm xs k : Int) - ((c : Int) + (lm ys k : Int)))] rfl rfl ?_ ?_ ?_ ?_ ?_ ?_)
          · rfl
          · unfold maxLen; omega
          · omega
          · first | omega | (simp; omega)
          · intro v6 w6 hown6 hgrow6 _
            obtain ⟨hO6, hB6⟩ := own_step (n := lm xs k - (c + lm ys k)) (by omega) HO.out hown6 hgrow6 HBE.out hbs (Nat.le_refl _)
            have HO6 := hide hO6
            have HB6 := hide hB6
            clear hown6 hgrow6 hO6 hB6
            go_wp2
            go_roundw
            case rel => exact ⟨k + 1, 0, _, by omega, by go_num, rfl, by omega, HAT.out.no HX.out HY.out (by omega), HO6.out, HB6.out⟩
            case measure => simp [intOf]; omega
      · by_cases hbo : lm xs k < c
        · have hboI : (lm xs k : Int) < (c : Int) := by omega
          have HZY := hide (lm_over ys k (by omega))
          go_wp2_with (at_builtin; refine wpList_append_own _ rfl _ _ 23 rfl w.heap.size 84 i0 (.int .u32 0) 1 4 Try.underlying23 hi hz0 hz1 hz2 rfl (by decide) _ _ _ rfl (World.ownsRow.alloc HO.out _) ⟨_, 0, none⟩ 1 1 [.int .u32 ((lm xs k : Int) + 65536 - (c : Int))] rfl rfl ?_ ?_ ?_ ?_ ?_ ?_)
          · intro i u hi'
            match i, hi' with
            | 0, hi' => simp at hi'; subst hi'; simp [Addr.add]
          · intro u hu; simp at hu; subst hu; rfl
          · unfold maxLen; omega
          · omega
          · simp; omega
          · intro v6 w6 hown6 hgrow6 _
            obtain ⟨hO6, hB6⟩ := own_step (n := lm xs k + 65536 - (c + lm ys k)) (by have := HZY.out; omega) HO.out hown6 hgrow6 HBE.out hbs (Nat.le_refl _)
            have HO6 := hide hO6
            have HB6 := hide hB6
            clear hown6 hgrow6 hO6 hB6
            go_wp2
            go_roundw
            case rel => exact ⟨k + 1, 1, _, by omega, by go_num, rfl, by omega, HAT.out.yes HX.out HY.out (by have := HZY.out; omega), HO6.out, HB6.out⟩
            case measure => simp [intOf]; omega
        · have hboI : ¬ (lm xs k : Int) < (c : Int) := by omega
          have HZY := hide (lm_over ys k (by omega))
          go_wp2_with (at_builtin; refine wpList_append_own _ rfl _ _ 23 rfl w.heap.size 84 i0 (.int .u32 0) 1 4 Try.underlying23 hi hz0 hz1 hz2 rfl (by decide) _ _ _ rfl (World.ownsRow.alloc HO.out _) ⟨_, 0, none⟩ 1 1 [.int .u32 ((lm xs k : Int) - (c : Int))] rfl rfl ?_ ?_ ?_ ?_ ?_ ?_)
          · rfl
          · unfold maxLen; omega
          · omega
          · first | omega | (simp; omega)
          · intro v6 w6 hown6 hgrow6 _
            obtain ⟨hO6, hB6⟩ := own_step (n := lm xs k - (c + lm ys k)) (by have := HZY.out; omega) HO.out hown6 hgrow6 HBE.out hbs (Nat.le_refl _)
            have HO6 := hide hO6
            have HB6 := hide hB6
            clear hown6 hgrow6 hO6 hB6
            go_wp2
            go_roundw
            case rel => exact ⟨k + 1, 0, _, by omega, by go_num, rfl, by omega, HAT.out.no HX.out HY.out (by have := HZY.out; omega), HO6.out, HB6.out⟩
            case measure => simp [intOf]; omega
    · have e : k = xs.length := by omega
      subst e
      go_wp2
      go_ret
      exact ⟨_, acc, rfl, HO.out, HAT.out.ok, HAT.out.last HLY.out HLE.out, HBE.out⟩
theorem rminus_any (v1 v2 : Value) (xs ys : List Nat) (w : World) (h1 : Nums w v1 xs) (h2 : Nums w v2 ys) (hx : D.Ok xs) (hy : D.Ok ys) (b1 : xs.length ≤ 100000000) (hl : ys.length ≤ xs.length) (hle : D.val ys ≤ D.val xs) :
    Calls Try.prog 88 #[v1, v2] w fun e w' => ∃ v' acc, e = .returned v' ∧ Nums w' v' acc ∧ D.Ok acc ∧ D.val acc = D.val xs - D.val ys ∧ Below w.heap.size w w' :=
  (rminus_own v1 v2 xs ys w h1 h2 hx hy b1 hl hle).mono fun _ _ ⟨v', acc, he, ho, ok, hv, hb⟩ => ⟨v', acc, he, ho.nums (dok ok), ok, hv, hb⟩
end Go.Proofs.Ytgkibmigbjjnnaa

namespace Go.Proofs.Ytgkibmigbjjnnaa
open Go.RowKit

/-- a number of the document's handed on: what stands behind it in the end -/
theorem rhanded {w w' : World} {g : Nat} {x y : Value} {z : Int} {b : Bool} {n : Nat} {a : Option Addr} {c : Nat} (hX : Box2 w' g 57 x y) (hx : ∀ z, x ≠ .int .u32 z) (hy : ∀ z, y ≠ .int .u32 z) (hg : w.heap.size ≤ g) (hB : Below w.heap.size w w')
    (hn : Nums w' (.slice a (D.lim n).length c) (D.lim n)) (he : z = sg b n) (h0 : n = 0 → b = false) :
    ∃ v, Ending.returned (.agg #[.bool b, .slice a (D.lim n).length c]) = .returned v ∧ RInt ((w'.setCell ⟨g, 0, none⟩ (.bool b)).setCell ⟨g, 1, none⟩ (.slice a (D.lim n).length c)) v z ∧ Below w.heap.size w ((w'.setCell ⟨g, 0, none⟩ (.bool b)).setCell ⟨g, 1, none⟩ (.slice a (D.lim n).length c)) :=
  ⟨_, rfl, ⟨b, n, a, c, rfl, keeps2 hX hx hy _ _ _ _ hn, he, h0⟩, (hB.setCell (p := ⟨g, 0, none⟩) hg _).setCell (p := ⟨g, 1, none⟩) hg _⟩

theorem dlen_le {m n : Nat} (h : m ≤ n) : (D.lim m).length ≤ (D.lim n).length := by
  have := D.val_lt (D.ok_lim n)
  rw [D.val_lim] at this
  exact D.lim_length_le (Nat.lt_of_le_of_lt h this)

set_option maxRecDepth 100000 in
set_option maxHeartbeats 4000000 in
theorem radd2_any (v1 v2 : Value) (x y : Int) (w : World) (h1 : RInt w v1 x) (h2 : RInt w v2 y) (l1 : (D.lim x.natAbs).length ≤ 100000000) (l2 : (D.lim y.natAbs).length ≤ 100000000) :
    Calls Try.prog 89 #[v1, v2] w fun e w' => ∃ v', e = .returned v' ∧ RInt w' v' (x + y) ∧ Below w.heap.size w w' := by
  obtain ⟨b1, n1, a1, c1, rfl, hn1, rfl, h01⟩ := h1
  obtain ⟨b2, n2, a2, c2, rfl, hn2, rfl, h02⟩ := h2
  have HE := hide (nboxes3 57 w (.bool b1) (.slice a1 (D.lim n1).length c1) (.bool b2) (.slice a2 (D.lim n2).length c2) (.bool false) (.slice none 0 0))
  have HN1 := hide (hn1.below HE.out.2.2.2)
  have HN2 := hide (hn2.below HE.out.2.2.2)
  rw [sg_abs] at l1 l2
  clear hn1 h01 hn2 h02
  by_cases hb : b1 = b2
  · subst hb
    go_enter Try.func89, Try.ntmps89
    go_wp2_with fail
    refine wp_calm (fun w' => Box2 w' w.heap.size 57 (.bool b1) (.slice a1 (D.lim n1).length c1) ∧ Box2 w' (w.heap.size + 1) 57 (.bool b1) (.slice a2 (D.lim n2).length c2)) (fun j => j != 8) 9 #[false, false, false, false, false, false, false, false, false] (by kernel_rfl) rfl rfl ?_
    have HF := hide (And.intro HE.out.1.drew HE.out.2.1.drew)
    refine Calm.take (i := 0) (v := ?_) (a' := ?_) (l' := #[true, false, false, false, false, false, false, false, false]) (d := some 10) rfl (by kernel_rfl) (by kernel_rfl) (by kernel_rfl) (by kernel_rfl) (fun _ _ _ h => h) HF.out rfl ?_ rfl rfl ?_ ?_
    rotate_left
    · intro w' hF; have f0 := hF.1.cell0; have f1 := hF.1.cell1; have f2 := hF.2.cell0; have f3 := hF.2.cell1; clear hF; go_simp; try rfl
    rotate_left
    · simp only [Act.put]; exact rfl
    refine Calm.take (i := 1) (v := ?_) (a' := ?_) (l' := #[true, true, false, false, false, false, false, false, false]) (d := some 11) rfl (by kernel_rfl) (by kernel_rfl) (by kernel_rfl) (by kernel_rfl) (fun _ _ _ h => h) HF.out rfl ?_ rfl rfl ?_ ?_
    rotate_left
    · intro w' hF; have f0 := hF.1.cell0; have f1 := hF.1.cell1; have f2 := hF.2.cell0; have f3 := hF.2.cell1; clear hF; go_simp; try rfl
    rotate_left
    · simp only [Act.put]; exact rfl
    refine Calm.take (i := 2) (v := ?_) (a' := ?_) (l' := #[true, true, true, false, false, false, false, false, false]) (d := some 12) rfl (by kernel_rfl) (by kernel_rfl) (by kernel_rfl) (by kernel_rfl) (fun _ _ _ h => h) HF.out rfl ?_ rfl rfl ?_ ?_
    rotate_left
    · intro w' hF; have f0 := hF.1.cell0; have f1 := hF.1.cell1; have f2 := hF.2.cell0; have f3 := hF.2.cell1; clear hF; go_simp; try rfl
    rotate_left
    · simp only [Act.put]; exact rfl
    refine Calm.take (i := 3) (v := ?_) (a' := ?_) (l' := #[true, true, true, true, false, false, false, false, false]) (d := some 13) rfl (by kernel_rfl) (by kernel_rfl) (by kernel_rfl) (by kernel_rfl) (fun _ _ _ h => h) HF.out rfl ?_ rfl rfl ?_ ?_
    rotate_left
    · intro w' hF; have f0 := hF.1.cell0; have f1 := hF.1.cell1; have f2 := hF.2.cell0; have f3 := hF.2.cell1; clear hF; go_simp; try rfl
    rotate_left
    · simp only [Act.put]; exact rfl
    refine Calm.take (i := 4) (v := ?_) (a' := ?_) (l' := #[true, true, true, true, true, false, false, false, false]) (d := some 14) rfl (by kernel_rfl) (by kernel_rfl) (by kernel_rfl) (by kernel_rfl) (fun _ _ _ h => h) HF.out rfl ?_ rfl rfl ?_ ?_
    rotate_left
    · intro w' hF; have f0 := hF.1.cell0; have f1 := hF.1.cell1; have f2 := hF.2.cell0; have f3 := hF.2.cell1; clear hF; go_simp; try rfl
    rotate_left
    · simp only [Act.put]; exact rfl
    refine Calm.take (i := 5) (v := ?_) (a' := ?_) (l' := #[true, true, true, true, true, true, false, false, false]) (d := some 15) rfl (by kernel_rfl) (by kernel_rfl) (by kernel_rfl) (by kernel_rfl) (fun _ _ _ h => h) HF.out rfl ?_ rfl rfl ?_ ?_
    rotate_left
    · intro w' hF; have f0 := hF.1.cell0; have f1 := hF.1.cell1; have f2 := hF.2.cell0; have f3 := hF.2.cell1; clear hF; go_simp; try rfl
    rotate_left
    · simp only [Act.put]; exact rfl
    refine Calm.one (i := 6) (l' := #[true, true, true, true, true, true, true, false, false]) (by kernel_rfl) rfl rfl rfl fun K hK => ?_
    go_simp
    refine (rplus_any _ _ (D.lim n1) (D.lim n2) _ HN1.out.drew HN2.out.drew (D.ok_lim _) (D.ok_lim _) l1 l2).mono ?_
    rintro e w1 ⟨v1, acc, rfl, m1, mo, mv, hb1⟩
    rw [D.val_lim, D.val_lim] at mv
    have HM1 := hide (And.intro m1 (And.intro mo mv))
    clear m1 mo mv
    have HR := hide (HE.out.2.2.1.drew.step hb1)
    have HB1 := hide (HE.out.2.2.2.trans ((Below.refl _ _).drew.trans (hb1.mono HE.out.2.2.2.size)))
    have HF' := hide (And.intro (HF.out.1.step hb1) (HF.out.2.step hb1))
    refine hK _ _ (fun _ => HF'.out) ?_
    clear hK K HF
    have HF := hide HF'.out
    clear HF'
    refine Calm.one (i := 7) (l' := #[true, true, true, true, true, true, true, true, false]) (by kernel_rfl) rfl rfl rfl fun K hK => ?_
    go_simp
    refine (rnorm2_any b1 _ acc _ HM1.out.1 HM1.out.2.1).mono ?_
    rintro e w2 ⟨v, rfl, ⟨b', n', a', c', rfl, hn', he, h0⟩, hb2⟩
    rw [HM1.out.2.2] at he
    have HX := hide (HR.out.step hb2)
    have HB2 := hide (HB1.out.trans (hb2.mono HB1.out.size))
    have HF' := hide (And.intro (HF.out.1.step hb2) (HF.out.2.step hb2))
    refine hK _ _ (fun _ => HF'.out) ?_
    clear hK K HF
    have HF := hide HF'.out
    clear HF'
    refine Calm.one (i := 8) (l' := #[true, true, true, true, true, true, true, true, true]) (by kernel_rfl) rfl rfl rfl fun K hK => ?_
    have hc0 := HX.out.cell0
    have hc1 := HX.out.cell1
    have hf0 := HX.out.free 0
    have hf1 := HX.out.free 1
    go_simp
    refine hK _ _ (fun h => absurd h (by decide)) ?_
    clear hK K
    refine Calm.done (by kernel_rfl) ?_
    go_wp2
    refine ret_ref rfl (w.heap.size + 1 + 1) _ _ _ _ rfl ((HX.out.set0 _).set1 _) rfl ?_
    refine rhanded HX.out (by simp) (by simp) (by omega) HB2.out hn' ?_ h0
    rw [← he, sg_add]
  · have hb' : b2 = !b1 := by cases b1 <;> cases b2 <;> simp_all
    subst hb'
    clear hb
    by_cases hlt : n1 < n2
    · have HLT := hide hlt
      have hcz : ¬ (0 : Int) ≤ cmpI n1 n2 := by rw [cmpI_lt hlt]; decide
      clear hlt
      go_enter Try.func89, Try.ntmps89
      go_wp2_with fail
      refine (rsize_any _ _ n1 n2 _ HN1.out HN2.out).mono ?_
      rintro e wz ⟨rfl, hb⟩
      have HEz := hide (And.intro (HE.out.1.step hb) (And.intro (HE.out.2.1.step hb) (And.intro (HE.out.2.2.1.step hb) (HE.out.2.2.2.trans (hb.mono HE.out.2.2.2.size)))))
      replace HN1 := hide (HN1.out.below hb)
      replace HN2 := hide (HN2.out.below hb)
      clear hb HE
      have HE := hide HEz.out
      clear HEz
      go_wp2_with fail
      refine wp_calm (fun w' => Box2 w' w.heap.size 57 (.bool b1) (.slice a1 (D.lim n1).length c1) ∧ Box2 w' (w.heap.size + 1) 57 (.bool !b1) (.slice a2 (D.lim n2).length c2)) (fun j => j != 8) 9 #[false, false, false, false, false, false, false, false, false] (by kernel_rfl) rfl rfl ?_
      have HF := hide (And.intro HE.out.1.drew HE.out.2.1.drew)
      refine Calm.take (i := 0) (v := ?_) (a' := ?_) (l' := #[true, false, false, false, false, false, false, false, false]) (d := some 32) rfl (by kernel_rfl) (by kernel_rfl) (by kernel_rfl) (by kernel_rfl) (fun _ _ _ h => h) HF.out rfl ?_ rfl rfl ?_ ?_
      rotate_left
      · intro w' hF; have f0 := hF.1.cell0; have f1 := hF.1.cell1; have f2 := hF.2.cell0; have f3 := hF.2.cell1; clear hF; go_simp; try rfl
      rotate_left
      · simp only [Act.put]; exact rfl
      refine Calm.take (i := 1) (v := ?_) (a' := ?_) (l' := #[true, true, false, false, false, false, false, false, false]) (d := some 33) rfl (by kernel_rfl) (by kernel_rfl) (by kernel_rfl) (by kernel_rfl) (fun _ _ _ h => h) HF.out rfl ?_ rfl rfl ?_ ?_
      rotate_left
      · intro w' hF; have f0 := hF.1.cell0; have f1 := hF.1.cell1; have f2 := hF.2.cell0; have f3 := hF.2.cell1; clear hF; go_simp; try rfl
      rotate_left
      · simp only [Act.put]; exact rfl
      refine Calm.take (i := 2) (v := ?_) (a' := ?_) (l' := #[true, true, true, false, false, false, false, false, false]) (d := some 34) rfl (by kernel_rfl) (by kernel_rfl) (by kernel_rfl) (by kernel_rfl) (fun _ _ _ h => h) HF.out rfl ?_ rfl rfl ?_ ?_
      rotate_left
      · intro w' hF; have f0 := hF.1.cell0; have f1 := hF.1.cell1; have f2 := hF.2.cell0; have f3 := hF.2.cell1; clear hF; go_simp; try rfl
      rotate_left
      · simp only [Act.put]; exact rfl
      refine Calm.take (i := 3) (v := ?_) (a' := ?_) (l' := #[true, true, true, true, false, false, false, false, false]) (d := some 35) rfl (by kernel_rfl) (by kernel_rfl) (by kernel_rfl) (by kernel_rfl) (fun _ _ _ h => h) HF.out rfl ?_ rfl rfl ?_ ?_
      rotate_left
      · intro w' hF; have f0 := hF.1.cell0; have f1 := hF.1.cell1; have f2 := hF.2.cell0; have f3 := hF.2.cell1; clear hF; go_simp; try rfl
      rotate_left
      · simp only [Act.put]; exact rfl
      refine Calm.take (i := 4) (v := ?_) (a' := ?_) (l' := #[true, true, true, true, true, false, false, false, false]) (d := some 36) rfl (by kernel_rfl) (by kernel_rfl) (by kernel_rfl) (by kernel_rfl) (fun _ _ _ h => h) HF.out rfl ?_ rfl rfl ?_ ?_
      rotate_left
      · intro w' hF; have f0 := hF.1.cell0; have f1 := hF.1.cell1; have f2 := hF.2.cell0; have f3 := hF.2.cell1; clear hF; go_simp; try rfl
      rotate_left
      · simp only [Act.put]; exact rfl
      refine Calm.take (i := 5) (v := ?_) (a' := ?_) (l' := #[true, true, true, true, true, true, false, false, false]) (d := some 37) rfl (by kernel_rfl) (by kernel_rfl) (by kernel_rfl) (by kernel_rfl) (fun _ _ _ h => h) HF.out rfl ?_ rfl rfl ?_ ?_
      rotate_left
      · intro w' hF; have f0 := hF.1.cell0; have f1 := hF.1.cell1; have f2 := hF.2.cell0; have f3 := hF.2.cell1; clear hF; go_simp; try rfl
      rotate_left
      · simp only [Act.put]; exact rfl
      refine Calm.one (i := 6) (l' := #[true, true, true, true, true, true, true, false, false]) (by kernel_rfl) rfl rfl rfl fun K hK => ?_
      go_simp
      refine (rminus_any _ _ (D.lim n2) (D.lim n1) _ HN2.out.drew HN1.out.drew (D.ok_lim _) (D.ok_lim _) l2 (dlen_le (Nat.le_of_lt HLT.out)) (by rw [D.val_lim, D.val_lim]; exact Nat.le_of_lt HLT.out)).mono ?_
      rintro e w1 ⟨v1, acc, rfl, m1, mo, mv, hb1⟩
      rw [D.val_lim, D.val_lim] at mv
      have HM1 := hide (And.intro m1 (And.intro mo mv))
      clear m1 mo mv
      have HR := hide (HE.out.2.2.1.drew.step hb1)
      have HB1 := hide (HE.out.2.2.2.trans ((Below.refl _ _).drew.trans (hb1.mono HE.out.2.2.2.size)))
      have HF' := hide (And.intro (HF.out.1.step hb1) (HF.out.2.step hb1))
      refine hK _ _ (fun _ => HF'.out) ?_
      clear hK K HF
      have HF := hide HF'.out
      clear HF'
      refine Calm.one (i := 7) (l' := #[true, true, true, true, true, true, true, true, false]) (by kernel_rfl) rfl rfl rfl fun K hK => ?_
      go_simp
      refine (rnorm2_any (!b1) _ acc _ HM1.out.1 HM1.out.2.1).mono ?_
      rintro e w2 ⟨v, rfl, ⟨b', n', a', c', rfl, hn', he, h0⟩, hb2⟩
      rw [HM1.out.2.2] at he
      have HX := hide (HR.out.step hb2)
      have HB2 := hide (HB1.out.trans (hb2.mono HB1.out.size))
      have HF' := hide (And.intro (HF.out.1.step hb2) (HF.out.2.step hb2))
      refine hK _ _ (fun _ => HF'.out) ?_
      clear hK K HF
      have HF := hide HF'.out
      clear HF'
      refine Calm.one (i := 8) (l' := #[true, true, true, true, true, true, true, true, true]) (by kernel_rfl) rfl rfl rfl fun K hK => ?_
      have hc0 := HX.out.cell0
      have hc1 := HX.out.cell1
      have hf0 := HX.out.free 0
      have hf1 := HX.out.free 1
      go_simp
      refine hK _ _ (fun h => absurd h (by decide)) ?_
      clear hK K
      refine Calm.done (by kernel_rfl) ?_
      go_wp2
      refine ret_ref rfl (w.heap.size + 1 + 1) _ _ _ _ rfl ((HX.out.set0 _).set1 _) rfl ?_
      refine rhanded HX.out (by simp) (by simp) (by omega) HB2.out hn' ?_ h0
      rw [← he, sg_lt _ _ _ HLT.out]
    · have HLT := hide hlt
      have hcz : (0 : Int) ≤ cmpI n1 n2 := by
        unfold cmpI; rw [if_neg hlt]; split <;> decide
      clear hlt
      go_enter Try.func89, Try.ntmps89
      go_wp2_with fail
      refine (rsize_any _ _ n1 n2 _ HN1.out HN2.out).mono ?_
      rintro e wz ⟨rfl, hb⟩
      have HEz := hide (And.intro (HE.out.1.step hb) (And.intro (HE.out.2.1.step hb) (And.intro (HE.out.2.2.1.step hb) (HE.out.2.2.2.trans (hb.mono HE.out.2.2.2.size)))))
      replace HN1 := hide (HN1.out.below hb)
      replace HN2 := hide (HN2.out.below hb)
      clear hb HE
      have HE := hide HEz.out
      clear HEz
      go_wp2_with fail
      refine wp_calm (fun w' => Box2 w' w.heap.size 57 (.bool b1) (.slice a1 (D.lim n1).length c1) ∧ Box2 w' (w.heap.size + 1) 57 (.bool !b1) (.slice a2 (D.lim n2).length c2)) (fun j => j != 8) 9 #[false, false, false, false, false, false, false, false, false] (by kernel_rfl) rfl rfl ?_
      have HF := hide (And.intro HE.out.1.drew HE.out.2.1.drew)
      refine Calm.take (i := 0) (v := ?_) (a' := ?_) (l' := #[true, false, false, false, false, false, false, false, false]) (d := some 24) rfl (by kernel_rfl) (by kernel_rfl) (by kernel_rfl) (by kernel_rfl) (fun _ _ _ h => h) HF.out rfl ?_ rfl rfl ?_ ?_
      rotate_left
      · intro w' hF; have f0 := hF.1.cell0; have f1 := hF.1.cell1; have f2 := hF.2.cell0; have f3 := hF.2.cell1; clear hF; go_simp; try rfl
      rotate_left
      · simp only [Act.put]; exact rfl
      refine Calm.take (i := 1) (v := ?_) (a' := ?_) (l' := #[true, true, false, false, false, false, false, false, false]) (d := some 25) rfl (by kernel_rfl) (by kernel_rfl) (by kernel_rfl) (by kernel_rfl) (fun _ _ _ h => h) HF.out rfl ?_ rfl rfl ?_ ?_
      rotate_left
      · intro w' hF; have f0 := hF.1.cell0; have f1 := hF.1.cell1; have f2 := hF.2.cell0; have f3 := hF.2.cell1; clear hF; go_simp; try rfl
      rotate_left
      · simp only [Act.put]; exact rfl
      refine Calm.take (i := 2) (v := ?_) (a' := ?_) (l' := #[true, true, true, false, false, false, false, false, false]) (d := some 26) rfl (by kernel_rfl) (by kernel_rfl) (by kernel_rfl) (by kernel_rfl) (fun _ _ _ h => h) HF.out rfl ?_ rfl rfl ?_ ?_
      rotate_left
      · intro w' hF; have f0 := hF.1.cell0; have f1 := hF.1.cell1; have f2 := hF.2.cell0; have f3 := hF.2.cell1; clear hF; go_simp; try rfl
      rotate_left
      · simp only [Act.put]; exact rfl
      refine Calm.take (i := 3) (v := ?_) (a' := ?_) (l' := #[true, true, true, true, false, false, false, false, false]) (d := some 27) rfl (by kernel_rfl) (by kernel_rfl) (by kernel_rfl) (by kernel_rfl) (fun _ _ _ h => h) HF.out rfl ?_ rfl rfl ?_ ?_
      rotate_left
      · intro w' hF; have f0 := hF.1.cell0; have f1 := hF.1.cell1; have f2 := hF.2.cell0; have f3 := hF.2.cell1; clear hF; go_simp; try rfl
      rotate_left
      · simp only [Act.put]; exact rfl
      refine Calm.take (i := 4) (v := ?_) (a' := ?_) (l' := #[true, true, true, true, true, false, false, false, false]) (d := some 28) rfl (by kernel_rfl) (by kernel_rfl) (by kernel_rfl) (by kernel_rfl) (fun _ _ _ h => h) HF.out rfl ?_ rfl rfl ?_ ?_
      rotate_left
      · intro w' hF; have f0 := hF.1.cell0; have f1 := hF.1.cell1; have f2 := hF.2.cell0; have f3 := hF.2.cell1; clear hF; go_simp; try rfl
      rotate_left
      · simp only [Act.put]; exact rfl
      refine Calm.take (i := 5) (v := ?_) (a' := ?_) (l' := #[true, true, true, true, true, true, false, false, false]) (d := some 29) rfl (by kernel_rfl) (by kernel_rfl) (by kernel_rfl) (by kernel_rfl) (fun _ _ _ h => h) HF.out rfl ?_ rfl rfl ?_ ?_
      rotate_left
      · intro w' hF; have f0 := hF.1.cell0; have f1 := hF.1.cell1; have f2 := hF.2.cell0; have f3 := hF.2.cell1; clear hF; go_simp; try rfl
      rotate_left
      · simp only [Act.put]; exact rfl
      refine Calm.one (i := 6) (l' := #[true, true, true, true, true, true, true, false, false]) (by kernel_rfl) rfl rfl rfl fun K hK => ?_
      go_simp
      refine (rminus_any _ _ (D.lim n1) (D.lim n2) _ HN1.out.drew HN2.out.drew (D.ok_lim _) (D.ok_lim _) l1 (dlen_le (Nat.le_of_not_lt HLT.out)) (by rw [D.val_lim, D.val_lim]; exact Nat.le_of_not_lt HLT.out)).mono ?_
      rintro e w1 ⟨v1, acc, rfl, m1, mo, mv, hb1⟩
      rw [D.val_lim, D.val_lim] at mv
      have HM1 := hide (And.intro m1 (And.intro mo mv))
      clear m1 mo mv
      have HR := hide (HE.out.2.2.1.drew.step hb1)
      have HB1 := hide (HE.out.2.2.2.trans ((Below.refl _ _).drew.trans (hb1.mono HE.out.2.2.2.size)))
      have HF' := hide (And.intro (HF.out.1.step hb1) (HF.out.2.step hb1))
      refine hK _ _ (fun _ => HF'.out) ?_
      clear hK K HF
      have HF := hide HF'.out
      clear HF'
      refine Calm.one (i := 7) (l' := #[true, true, true, true, true, true, true, true, false]) (by kernel_rfl) rfl rfl rfl fun K hK => ?_
      go_simp
      refine (rnorm2_any b1 _ acc _ HM1.out.1 HM1.out.2.1).mono ?_
      rintro e w2 ⟨v, rfl, ⟨b', n', a', c', rfl, hn', he, h0⟩, hb2⟩
      rw [HM1.out.2.2] at he
      have HX := hide (HR.out.step hb2)
      have HB2 := hide (HB1.out.trans (hb2.mono HB1.out.size))
      have HF' := hide (And.intro (HF.out.1.step hb2) (HF.out.2.step hb2))
      refine hK _ _ (fun _ => HF'.out) ?_
      clear hK K HF
      have HF := hide HF'.out
      clear HF'
      refine Calm.one (i := 8) (l' := #[true, true, true, true, true, true, true, true, true]) (by kernel_rfl) rfl rfl rfl fun K hK => ?_
      have hc0 := HX.out.cell0
      have hc1 := HX.out.cell1
      have hf0 := HX.out.free 0
      have hf1 := HX.out.free 1
      go_simp
      refine hK _ _ (fun h => absurd h (by decide)) ?_
      clear hK K
      refine Calm.done (by kernel_rfl) ?_
      go_wp2
      refine ret_ref rfl (w.heap.size + 1 + 1) _ _ _ _ rfl ((HX.out.set0 _).set1 _) rfl ?_
      refine rhanded HX.out (by simp) (by simp) (by omega) HB2.out hn' ?_ h0
      rw [← he, sg_ge _ _ _ HLT.out]

set_option maxRecDepth 100000 in
set_option maxHeartbeats 1000000 in
theorem rsub2_any (v1 v2 : Value) (x y : Int) (w : World) (h1 : RInt w v1 x) (h2 : RInt w v2 y) (l1 : (D.lim x.natAbs).length ≤ 100000000) (l2 : (D.lim y.natAbs).length ≤ 100000000) :
    Calls Try.prog 101 #[v1, v2] w fun e w' => ∃ v', e = .returned v' ∧ RInt w' v' (x - y) ∧ Below w.heap.size w w' := by
  have I1 := hide h1
  have I2 := hide h2
  obtain ⟨b1, n1, a1, c1, rfl, hn1, e1, h01⟩ := h1
  obtain ⟨b2, n2, a2, c2, rfl, hn2, e2, h02⟩ := h2
  have HE := hide (nboxes3 57 w (.bool b1) (.slice a1 (D.lim n1).length c1) (.bool b2) (.slice a2 (D.lim n2).length c2) (.bool false) (.slice none 0 0))
  replace I1 := hide (I1.out.below HE.out.2.2.2)
  replace I2 := hide (I2.out.below HE.out.2.2.2)
  clear hn1 h01 hn2 h02 e1 e2
  go_enter Try.func101, Try.ntmps101
  go_wp2_with fail
  refine wp_calm (fun w' => Box2 w' w.heap.size 57 (.bool b1) (.slice a1 (D.lim n1).length c1) ∧ Box2 w' (w.heap.size + 1) 57 (.bool b2) (.slice a2 (D.lim n2).length c2)) (fun j => j != 4) 5 #[false, false, false, false, false] (by kernel_rfl) rfl rfl ?_
  have HF := hide (And.intro HE.out.1.drew HE.out.2.1.drew)
  refine Calm.take (i := 0) (v := ?_) (a' := ?_) (l' := #[true, false, false, false, false]) (d := some 5) rfl (by kernel_rfl) (by kernel_rfl) (by kernel_rfl) (by kernel_rfl) (fun _ _ _ h => h) HF.out rfl ?_ rfl rfl ?_ ?_
  rotate_left
  · intro w' hF; have f0 := hF.1.cell0; have f1 := hF.1.cell1; have f2 := hF.2.cell0; have f3 := hF.2.cell1; clear hF; go_simp; try rfl
  rotate_left
  · simp only [Act.put]; exact rfl
  refine Calm.take (i := 1) (v := ?_) (a' := ?_) (l' := #[true, true, false, false, false]) (d := some 6) rfl (by kernel_rfl) (by kernel_rfl) (by kernel_rfl) (by kernel_rfl) (fun _ _ _ h => h) HF.out rfl ?_ rfl rfl ?_ ?_
  rotate_left
  · intro w' hF; have f0 := hF.1.cell0; have f1 := hF.1.cell1; have f2 := hF.2.cell0; have f3 := hF.2.cell1; clear hF; go_simp; try rfl
  rotate_left
  · simp only [Act.put]; exact rfl
  refine Calm.one (i := 2) (l' := #[true, true, true, false, false]) (by kernel_rfl) rfl rfl rfl fun K hK => ?_
  go_simp
  refine (rneg_any _ y _ I2.out.drew).mono ?_
  rintro e w1 ⟨v1, rfl, m1, hb1⟩
  have HM1 := hide m1
  have HR := hide (HE.out.2.2.1.drew.step hb1)
  have HB1 := hide (HE.out.2.2.2.trans ((Below.refl _ _).drew.trans (hb1.mono HE.out.2.2.2.size)))
  replace I1 := hide (I1.out.drew.below hb1)
  have HF' := hide (And.intro (HF.out.1.step hb1) (HF.out.2.step hb1))
  refine hK _ _ (fun _ => HF'.out) ?_
  clear hK K HF
  have HF := hide HF'.out
  clear HF'
  refine Calm.one (i := 3) (l' := #[true, true, true, true, false]) (by kernel_rfl) rfl rfl rfl fun K hK => ?_
  go_simp
  refine (radd2_any _ _ x (-y) _ I1.out HM1.out l1 (by rw [neg_abs]; exact l2)).mono ?_
  rintro e w2 ⟨v, rfl, ⟨b', n', a', c', rfl, hn', he, h0⟩, hb2⟩
  have HX := hide (HR.out.step hb2)
  have HB2 := hide (HB1.out.trans (hb2.mono HB1.out.size))
  have HF' := hide (And.intro (HF.out.1.step hb2) (HF.out.2.step hb2))
  refine hK _ _ (fun _ => HF'.out) ?_
  clear hK K HF
  have HF := hide HF'.out
  clear HF'
  refine Calm.one (i := 4) (l' := #[true, true, true, true, true]) (by kernel_rfl) rfl rfl rfl fun K hK => ?_
  have hc0 := HX.out.cell0
  have hc1 := HX.out.cell1
  have hf0 := HX.out.free 0
  have hf1 := HX.out.free 1
  go_simp
  refine hK _ _ (fun h => absurd h (by decide)) ?_
  clear hK K
  refine Calm.done (by kernel_rfl) ?_
  go_wp2
  refine ret_ref rfl (w.heap.size + 1 + 1) _ _ _ _ rfl ((HX.out.set0 _).set1 _) rfl ?_
  refine rhanded HX.out (by simp) (by simp) (by omega) HB2.out hn' ?_ h0
  rw [← he, Int.sub_eq_add_neg]
end Go.Proofs.Ytgkibmigbjjnnaa

namespace Go.Proofs.Ytgkibmigbjjnnaa
open Go.RowKit

theorem dset_val (out : List Nat) (p d : Nat) (h : p < out.length) : D.val (out.set p d) + 65536 ^ p * lm out p = D.val out + 65536 ^ p * d := by
  induction out generalizing p with
  | nil => simp at h
  | cons x out ih =>
    cases p with
    | zero => simp [D.val, lm]; omega
    | succ p =>
      have := ih p (by simpa using h)
      have e : lm (x :: out) (p + 1) = lm out p := by simp [lm]
      rw [e, List.set_cons_succ]
      simp only [D.val]
      show x + 65536 * D.val (out.set p d) + 65536 ^ (p + 1) * lm out p = x + 65536 * D.val out + 65536 ^ (p + 1) * d
      rw [Nat.pow_succ, Nat.mul_comm (65536 ^ p) 65536, Nat.mul_assoc, Nat.mul_assoc, Nat.add_assoc, Nat.add_assoc, ← Nat.mul_add, ← Nat.mul_add, this]

/-- a product's state: the rows ahead of i, of the row i the digits ahead of j -/
structure ProdAt (xs ys : List Nat) (i j c : Nat) (out : List Nat) : Prop where
  len : out.length = xs.length + ys.length + 1
  ok : D.Ok out
  c1 : c < 65536
  sum : D.val out + 65536 ^ (i + j) * c = D.val (xs.take i) * D.val ys + 65536 ^ i * lm xs i * D.val (ys.take j)
theorem ProdAt.start (xs ys : List Nat) : ProdAt xs ys 0 0 0 (List.replicate (xs.length + ys.length + 1) 0) := by
  refine ⟨by simp, fun x hx => ?_, by decide, ?_⟩
  · rw [List.eq_of_mem_replicate hx]; decide
  · rw [show D.val (List.replicate (xs.length + ys.length + 1) 0) = 0 from D.val_replicate _]; simp [D.val]
theorem ProdAt.step {xs ys : List Nat} {i j c : Nat} {out : List Nat} (h : ProdAt xs ys i j c out) (hx : D.Ok xs) (hy : D.Ok ys) (hp : i + j < out.length) :
    ProdAt xs ys i (j + 1) ((c + lm out (i + j) + lm xs i * lm ys j) / 65536) (out.set (i + j) ((c + lm out (i + j) + lm xs i * lm ys j) % 65536)) := by
  have h1 := dlm_lt hx i
  have h2 := dlm_lt hy j
  have h3 := dlm_lt h.ok (i + j)
  have h4 := h.c1
  have h5 : lm xs i * lm ys j ≤ 65535 * 65535 := Nat.mul_le_mul (by omega) (by omega)
  refine ⟨by rw [List.length_set]; exact h.len, h.ok.set _ _ (Nat.mod_lt _ (by decide)), by omega, ?_⟩
  have e := dset_val out (i + j) ((c + lm out (i + j) + lm xs i * lm ys j) % 65536) hp
  have em := Nat.mod_add_div (c + lm out (i + j) + lm xs i * lm ys j) 65536
  rw [dtake_succ, show i + (j + 1) = i + j + 1 from by omega, Nat.pow_succ]
  have hs := h.sum
  have e1 : 65536 ^ (i + j) * ((c + lm out (i + j) + lm xs i * lm ys j) % 65536) + 65536 ^ (i + j) * 65536 * ((c + lm out (i + j) + lm xs i * lm ys j) / 65536) = 65536 ^ (i + j) * c + 65536 ^ (i + j) * lm out (i + j) + 65536 ^ (i + j) * (lm xs i * lm ys j) := by
    rw [Nat.mul_assoc, ← Nat.mul_add, em, Nat.mul_add, Nat.mul_add]
  have e2 : 65536 ^ i * lm xs i * (D.val (ys.take j) + 65536 ^ j * lm ys j) = 65536 ^ i * lm xs i * D.val (ys.take j) + 65536 ^ (i + j) * (lm xs i * lm ys j) := by
    rw [Nat.mul_add, Nat.pow_add]
    congr 1
    rw [Nat.mul_assoc, Nat.mul_assoc]
    congr 1
    rw [← Nat.mul_assoc, ← Nat.mul_assoc, Nat.mul_comm (lm xs i)]
  rw [e2]
  omega
theorem ProdAt.last {xs ys : List Nat} {i j : Nat} {out : List Nat} (h : ProdAt xs ys i j 0 out) (hj : ys.length ≤ j) : ProdAt xs ys (i + 1) 0 0 out := by
  refine ⟨h.len, h.ok, by decide, ?_⟩
  have := h.sum
  rw [List.take_of_length_le hj, Nat.mul_zero, Nat.add_zero] at this
  rw [this, dtake_succ, List.take_zero]
  simp only [D.val, Nat.mul_zero, Nat.add_zero]
  rw [Nat.add_mul]
theorem ProdAt.whole {xs ys : List Nat} {i : Nat} {out : List Nat} (h : ProdAt xs ys i 0 0 out) (hi : xs.length ≤ i) : D.val out = D.val xs * D.val ys := by
  have := h.sum
  rw [List.take_of_length_le hi, List.take_zero] at this
  simpa [D.val] using this
theorem dtake_le (ys : List Nat) (j : Nat) : D.val (ys.take j) ≤ D.val ys := by
  have := D.val_append (ys.take j) (ys.drop j)
  rw [List.take_append_drop] at this
  omega
theorem ProdAt.room {xs ys : List Nat} {i j c : Nat} {out : List Nat} (h : ProdAt xs ys i j c out) (hx : D.Ok xs) (hy : D.Ok ys) (hc : 0 < c) : j ≤ ys.length := by
  have h1 : D.val (xs.take (i + 1)) < 65536 ^ (i + 1) := Nat.lt_of_lt_of_le (D.val_lt (hx.take (i + 1))) (Nat.pow_le_pow_right (by decide) (by rw [List.length_take]; omega))
  have h2 : D.val ys < 65536 ^ ys.length := D.val_lt hy
  have h3 : D.val (xs.take (i + 1)) * D.val ys < 65536 ^ (i + 1) * 65536 ^ ys.length := Nat.mul_lt_mul_of_lt_of_le h1 (Nat.le_of_lt h2) (Nat.pow_pos (by decide))
  rw [dtake_succ, Nat.add_mul, ← Nat.pow_add] at h3
  have h4 : 65536 ^ i * lm xs i * D.val (ys.take j) ≤ 65536 ^ i * lm xs i * D.val ys := Nat.mul_le_mul_left _ (dtake_le ys j)
  have h5 : 65536 ^ (i + j) ≤ 65536 ^ (i + j) * c := Nat.le_mul_of_pos_right _ hc
  have hs := h.sum
  have h6 : 65536 ^ (i + j) < 65536 ^ (i + 1 + ys.length) := by omega
  have := (Nat.pow_lt_pow_iff_right (by decide)).1 h6
  omega

theorem mul2_next {W0 wq : World} {T n i j c : Nat} {X Y out : List Nat} {s : Int} (hat : ProdAt X Y i j c out) (hx : D.Ok X) (hy : D.Ok Y) (hp : i + j < out.length) (hrow : RowC wq T T n n out) (hbel : Below T W0 wq) (hs : s = ((c + lm out (i + j) + lm X i * lm Y j : Nat) : Int)) :
    ProdAt X Y i (j + 1) ((c + lm out (i + j) + lm X i * lm Y j) / 65536) (out.set (i + j) ((c + lm out (i + j) + lm X i * lm Y j) % 65536)) ∧ Value.int .u64 (s / 65536) = .int .u64 ((c + lm out (i + j) + lm X i * lm Y j) / 65536 : Nat) ∧
      RowC (wq.setCell ⟨T, i + j, none⟩ (.int .u32 (s % 65536))) T T n n (out.set (i + j) ((c + lm out (i + j) + lm X i * lm Y j) % 65536)) ∧ Below T W0 (wq.setCell ⟨T, i + j, none⟩ (.int .u32 (s % 65536))) := by
  have e : s % 65536 = (((c + lm out (i + j) + lm X i * lm Y j) % 65536 : Nat) : Int) := by rw [hs, Int.natCast_emod]; rfl
  have e' : s / 65536 = (((c + lm out (i + j) + lm X i * lm Y j) / 65536 : Nat) : Int) := by rw [hs, Int.natCast_ediv]; rfl
  refine ⟨hat.step hx hy hp, by rw [e'], ?_, hbel.setCell (p := ⟨T, i + j, none⟩) (Nat.le_refl _) _⟩
  rw [e]; exact hrow.set _ _

set_option maxRecDepth 100000 in
set_option maxHeartbeats 4000000 in
theorem rmul2_any (v1 v2 : Value) (x y : Int) (w : World) (h1 : RInt w v1 x) (h2 : RInt w v2 y) (l1 : (D.lim x.natAbs).length ≤ 100000000) (l2 : (D.lim y.natAbs).length ≤ 100000000) :
    Calls Try.prog 56 #[v1, v2] w fun e w' => ∃ v', e = .returned v' ∧ RInt w' v' (x * y) ∧ Below w.heap.size w w' := by
  obtain ⟨i0, hi, hz0, hz1, hz2⟩ := info_parts Try.info84
  obtain ⟨b1, n1, a1, c1, rfl, hn1, rfl, h01⟩ := h1
  obtain ⟨b2, n2, a2, c2, rfl, hn2, rfl, h02⟩ := h2
  have HE := hide (nboxes3 57 w (.bool b1) (.slice a1 (D.lim n1).length c1) (.bool b2) (.slice a2 (D.lim n2).length c2) (.bool false) (.slice none 0 0))
  have HN1 := hide (hn1.below HE.out.2.2.2)
  have HN2 := hide (hn2.below HE.out.2.2.2)
  rw [sg_abs] at l1 l2
  have HV1 := hide (D.val_lim n1)
  have HV2 := hide (D.val_lim n2)
  have HX := hide (D.ok_lim n1)
  have HY := hide (D.ok_lim n2)
  clear hn1 h01 hn2 h02
  obtain ⟨X, hX⟩ : ∃ X, X = D.lim n1 := ⟨_, rfl⟩
  obtain ⟨Y, hY⟩ : ∃ Y, Y = D.lim n2 := ⟨_, rfl⟩
  rw [← hX] at HE HN1 HN2 HV1 HX l1
  rw [← hY] at HE HN1 HN2 HV2 HY l2
  rw [← hX, ← hY]
  clear hX hY
  obtain ⟨_, a', c', he1, _, hm1, hcc1⟩ := HN1.out
  obtain ⟨_, a'', c'', he2, _, hm2, hcc2⟩ := HN2.out
  simp only [Value.slice.injEq] at he1 he2
  obtain ⟨rfl, _, rfl⟩ := he1
  obtain ⟨rfl, _, rfl⟩ := he2
  have HC1 := hide hcc1
  have HC2 := hide hcc2
  unfold maxLen at hm1 hm2
  clear hcc1 hcc2
  go_enter Try.func56, Try.ntmps56
  have HTS : Hid (w.heap.size + 1 + 1 + 1 = (((w.alloc (.cells #[.bool b1, .slice a1 X.length c1] 57)).alloc (.cells #[.bool b2, .slice a2 Y.length c2] 57)).alloc (.cells #[.bool false, .slice none 0 0] 57)).heap.size) := hide (by simp)
  go_wp2_with (at_make; refine wpList_make_full _ rfl _ _ 23 rfl (w.heap.size + 1 + 1 + 1) 84 i0 (.int .u32 0) 1 Try.underlying23 hi hz0 hz1 _ _ _ _ (X.length + Y.length + 1) rfl rfl ?_ ?_ ?_ ?_ ?_ ?_)
  · omega
  · omega
  · rw [hz2]; omega
  · unfold maxLen; omega
  · exact Nat.le_of_eq HTS.out
  intro w1 hown hgrow
  have HB1 : Hid (Below (w.heap.size + 1 + 1 + 1) (((w.alloc (.cells #[.bool b1, .slice a1 X.length c1] 57)).alloc (.cells #[.bool b2, .slice a2 Y.length c2] 57)).alloc (.cells #[.bool false, .slice none 0 0] 57)) w1) := hide ((Below.refl _ _).grown hgrow (Nat.le_of_eq HTS.out) (fun k hk => by simp at hk))
  have HR1 : Hid (RowC w1 (w.heap.size + 1 + 1 + 1) (w.heap.size + 1 + 1 + 1) (X.length + Y.length + 1) (X.length + Y.length + 1) (List.replicate (X.length + Y.length + 1) 0)) := hide (by rw [made_fil] at hown; unfold RowC; simpa [fil] using hown)
  clear hown hgrow
  obtain ⟨W0, hW0⟩ : ∃ W0, W0 = ((w.alloc (.cells #[.bool b1, .slice a1 X.length c1] 57)).alloc (.cells #[.bool b2, .slice a2 Y.length c2] 57)).alloc (.cells #[.bool false, .slice none 0 0] 57) := ⟨_, rfl⟩
  rw [← hW0] at HE HN1 HN2 HC1 HC2 HTS HB1
  clear hW0
  obtain ⟨T, hT⟩ : ∃ T, T = w.heap.size + 1 + 1 + 1 := ⟨_, rfl⟩
  have HTV := hide hT
  rw [← hT] at HTS HB1 HR1 ⊢
  go_wp2
  clear hT
  go_loopw [6] (fun iv wr => ∃ (i : Nat) (out : List Nat), i ≤ X.length ∧ iv = .int .i64 i ∧ ProdAt X Y i 0 0 out ∧ RowC wr T T (X.length + Y.length + 1) (X.length + Y.length + 1) out ∧ Below T W0 wr) (fun iv _ => X.length - (intOf iv).toNat)
  case atStart => exact ⟨0, _, Nat.zero_le _, rfl, ProdAt.start X Y, HR1.out, HB1.out⟩
  case round =>
    clear HR1 HB1
    obtain ⟨i, out, hiX, rfl, hat, hrow, hbel⟩ := hrel
    have HAT := hide hat
    have HRW := hide hrow
    have HBE := hide hbel
    have HXB := hide (HE.out.1.below hbel (by have := HTV.out; omega))
    have HYB := hide (HE.out.2.1.below hbel (by have := HTV.out; omega))
    have hxb := HXB.out.cell1
    clear hat hrow hbel
    by_cases hlt : i < X.length
    · go_wp2
      go_loopw [7, 8] (fun cv jv wx => ∃ (j c : Nat) (out : List Nat), j ≤ Y.length + 1 ∧ jv = .int .i64 j ∧ cv = .int .u64 c ∧ c < 65536 ∧ Hid (j ≤ Y.length ∨ c = 0) ∧ ProdAt X Y i j c out ∧ RowC wx T T (X.length + Y.length + 1) (X.length + Y.length + 1) out ∧ Below T W0 wx) (fun _ jv _ => Y.length + 1 - (intOf jv).toNat)
      case atStart => exact ⟨0, 0, out, by omega, rfl, rfl, by omega, .inr rfl, HAT.out, HRW.out, HBE.out⟩
      case round =>
        clear HXB HYB hxb HAT HRW HBE
        obtain ⟨j, c, out, hj, rfl, rfl, hc, HJ, hat, hrow, hbel⟩ := hrel
        have HAT := hide hat
        have HRW := hide hrow
        have HBE := hide hbel
        have HXB := hide (HE.out.1.below hbel (by have := HTV.out; omega))
        have HYB := hide (HE.out.2.1.below hbel (by have := HTV.out; omega))
        have hxb := HXB.out.cell1
        have hyb := HYB.out.cell1
        have HRM := hide (fun h => hat.room HX.out HY.out h)
        have HLN := hide hat.len
        by_cases hgo : j < Y.length ∨ 0 < c
        · have hjY : j ≤ Y.length := by
            rcases hgo with h | h
            · omega
            · exact HRM.out h
          have hfr := hrow.free (i + j)
          have hcl := hrow.cell hat.len (i + j) (by omega)
          have ho1 := dlm_lt hat.ok (i + j)
          have hx1 := dlm_lt HX.out i
          have hy1 := dlm_lt HY.out j
          clear hat hrow hbel
          obtain ⟨B1, o1, rfl, hxc⟩ := HC1.out (ne_nil hlt)
          have hxk : wr.cell? ⟨B1, o1 + i, none⟩ = some (.int .u32 (lm X i : Nat)) := by
            have h0 := hxc i hlt
            have hb0 := World.block_lt_of_cell? W0 _ h0
            rw [HBE.out.cell (by rw [HTS.out]; exact hb0)]; exact h0
          clear hxc
          by_cases hlj : j < Y.length
          · obtain ⟨B2, o2, rfl, hyc⟩ := HC2.out (ne_nil hlj)
            have hyk : wr.cell? ⟨B2, o2 + j, none⟩ = some (.int .u32 (lm Y j : Nat)) := by
              have h0 := hyc j hlj
              have hb0 := World.block_lt_of_cell? W0 _ h0
              rw [HBE.out.cell (by rw [HTS.out]; exact hb0)]; exact h0
            clear hyc
            have hp1 : (lm X i : Int) * (lm Y j : Int) ≤ 4294836225 := by
              have : lm X i * lm Y j ≤ 65535 * 65535 := Nat.mul_le_mul (by omega) (by omega)
              have e : ((lm X i * lm Y j : Nat) : Int) = (lm X i : Int) * (lm Y j : Int) := Int.natCast_mul _ _
              omega
            have hp0 : 0 ≤ (lm X i : Int) * (lm Y j : Int) := Int.mul_nonneg (by omega) (by omega)
            have hltI : (i : Int) < (X.length : Int) := by omega
            have hljI : (j : Int) < (Y.length : Int) := by omega
            go_wp2
            go_quiet (fail)
            go_wp2
            obtain ⟨k1, k2, k3, k4⟩ := mul2_next (wq := wr.drewN nq) (s := (c : Int) + (lm out (i + j) : Int) + (lm X i : Int) * (lm Y j : Int)) HAT.out HX.out HY.out (by rw [HLN.out]; omega) HRW.out (below_drewN HBE.out _) (by rw [Int.natCast_add, Int.natCast_add, Int.natCast_mul])
            have K1 := hide k1
            have K2 := hide k2
            have K3 := hide k3
            have K4 := hide k4
            clear k1 k2 k3 k4
            go_roundw
            case rel => exact ⟨j + 1, _, _, by omega, by go_num, K2.out, K1.out.c1, .inl (by omega), K1.out, K3.out, K4.out⟩
            case measure => simp [intOf]; omega
          · have hcp : 0 < c := by rcases hgo with h | h; exact absurd h hlj; exact h
            have HZY := hide (lm_over Y j (by omega))
            go_wp2
            obtain ⟨k1, k2, k3, k4⟩ := mul2_next (wq := wr) (s := (c : Int) + (lm out (i + j) : Int)) HAT.out HX.out HY.out (by rw [HLN.out]; omega) HRW.out HBE.out (by rw [HZY.out, Nat.mul_zero, Nat.add_zero, Int.natCast_add])
            have K1 := hide k1
            have K2 := hide k2
            have K3 := hide k3
            have K4 := hide k4
            have HC0 : Hid ((c + lm out (i + j) + lm X i * lm Y j) / 65536 = 0) := hide (by
              have h1 := K1.out
              rcases Nat.eq_zero_or_pos ((c + lm out (i + j) + lm X i * lm Y j) / 65536) with h | h
              · exact h
              · have := h1.room HX.out HY.out h; omega)
            clear k1 k2 k3 k4
            go_roundw
            case rel => exact ⟨j + 1, _, _, by omega, by go_num, K2.out, K1.out.c1, .inr HC0.out, K1.out, K3.out, K4.out⟩
            case measure => simp [intOf]; omega
        · have hc0 : c = 0 := by omega
          have hjY : Y.length ≤ j := by omega
          subst hc0
          clear hat hrow hbel
          go_wp2
          go_roundw
          case rel => exact ⟨i + 1, out, by omega, by go_num, HAT.out.last hjY, HRW.out, HBE.out⟩
          case measure => simp [intOf]; omega
    · have e : i = X.length := by omega
      subst e
      have hx0 := HXB.out.cell0
      have hy0 := HYB.out.cell0
      have HOW := hide (HRW.out.nums HAT.out.len (dok HAT.out.ok))
      have HWV := hide (HAT.out.whole (Nat.le_refl _))
      have HRB := hide (HE.out.2.2.1.below HBE.out (by have := HTV.out; omega))
      have HBW := hide (HE.out.2.2.2.trans (HBE.out.mono (by have := HTV.out; omega)))
      go_wp2_with fail
      refine (rnorm2_any (b1 != b2) _ out _ HOW.out HAT.out.ok).mono ?_
      rintro e w2 ⟨v2', rfl, ⟨b', n', a'', c'', rfl, hn', he, h0⟩, hb2⟩
      have HX2 := hide (HRB.out.step hb2)
      have HB2 := hide (HBW.out.trans (hb2.mono HBW.out.size))
      clear hb2 hx0 hy0 hxb
      have hc0 := HX2.out.cell0
      have hc1 := HX2.out.cell1
      have hf0 := HX2.out.free 0
      have hf1 := HX2.out.free 1
      go_wp2
      refine ret_ref rfl (w.heap.size + 1 + 1) _ _ _ _ rfl ((HX2.out.set0 _).set1 _) rfl ?_
      refine rhanded HX2.out (by simp) (by simp) (by omega) HB2.out hn' ?_ h0
      rw [← he, HWV.out, HV1.out, HV2.out, sg_mul]
end Go.Proofs.Ytgkibmigbjjnnaa

namespace Go.Proofs.Ytgkibmigbjjnnaa
open Go.RowKit

structure RVar (w : World) (g : Nat) (s : Bool) (m : Option Addr) (n c : Nat) (z : Int) : Prop where
  box : Box2 w g 57 (.bool s) (.slice m n c)
  int : RInt w (.agg #[.bool s, .slice m n c]) z
theorem RVar.step {w w' : World} {g : Nat} {s : Bool} {m : Option Addr} {n c : Nat} {z : Int} (h : RVar w g s m n c z) (hb : Below w.heap.size w w') : RVar w' g s m n c z := ⟨h.box.step hb, h.int.below hb⟩
theorem RVar.drew {w : World} {g : Nat} {s : Bool} {m : Option Addr} {n c : Nat} {z : Int} (h : RVar w g s m n c z) : RVar w.drew g s m n c z := ⟨h.box.drew, h.int.drew⟩
theorem SzI.dlen {k : Nat} {z : Int} (h : SzI k z) (hk : 2 * k ≤ 100000000) : (D.lim z.natAbs).length ≤ 100000000 := by
  refine Nat.le_trans (D.lim_length_le (k := 2 * k) ?_) hk
  have : BB ^ k = D.BB ^ (2 * k) := bb_pow k
  unfold SzI at h
  rw [← this]; exact h
theorem SzI.word {c : Int} (hlo : -9223372036854775808 ≤ c) (hhi : c ≤ 9223372036854775807) : SzI 2 c := by
  unfold SzI BB; omega
end Go.Proofs.Ytgkibmigbjjnnaa
