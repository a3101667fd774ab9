/- The document's answers for layer 1 (swageref01): Cmp, Sub; and the law's own kept. -/
import Derived.Test.YtmibgcpafccliaaDoorRefSum
namespace Go.Proofs.YtmibgcpafccliaaDoor
open Go.RowKit

theorem val_head (xs : List Nat) : val xs = lm xs 0 + BB * val xs.tail := by cases xs <;> simp [val, lm]
theorem lm_tail (xs : List Nat) (j : Nat) : lm xs.tail j = lm xs (j + 1) := by cases xs <;> simp [lm]
theorem Ok.tl {xs : List Nat} (h : Ok xs) : Ok xs.tail := by cases xs with | nil => exact h | cons x xs => exact Ok.tail h
theorem val_eq_lm : ∀ (n : Nat) (xs ys : List Nat), xs.length ≤ n → ys.length ≤ n → (∀ j, lm xs j = lm ys j) → val xs = val ys := by
  intro n
  induction n with
  | zero => intro xs ys h1 h2 _; rw [List.eq_nil_of_length_eq_zero (by omega : xs.length = 0), List.eq_nil_of_length_eq_zero (by omega : ys.length = 0)]
  | succ n ih =>
    intro xs ys h1 h2 h
    rw [val_head xs, val_head ys, h 0, ih xs.tail ys.tail (by simp; omega) (by simp; omega) (fun j => by rw [lm_tail, lm_tail, h])]
theorem val_lt_lm : ∀ (k : Nat) {xs ys : List Nat}, Ok xs → Ok ys → lm xs k < lm ys k → (∀ j, k + 1 ≤ j → lm xs j = lm ys j) → val xs < val ys := by
  intro k
  induction k with
  | zero =>
    intro xs ys _ _ h ht
    have e := val_eq_lm (xs.length + ys.length) xs.tail ys.tail (by simp; omega) (by simp; omega) (fun j => by rw [lm_tail, lm_tail, ht (j + 1) (by omega)])
    rw [val_head xs, val_head ys, e]; omega
  | succ k ih =>
    intro xs ys h1 h2 h ht
    have e := ih h1.tl h2.tl (by rw [lm_tail, lm_tail]; exact h) (fun j hj => by rw [lm_tail, lm_tail, ht (j + 1) (by omega)])
    have b1 := h1.at 0
    have e2 : BB * (val xs.tail + 1) ≤ BB * val ys.tail := Nat.mul_le_mul_left _ e
    rw [Nat.mul_add, Nat.mul_one] at e2
    rw [val_head xs, val_head ys]; omega

set_option maxRecDepth 100000 in
set_option maxHeartbeats 1000000 in
theorem rcmp_any (v1 v2 : Value) (xs ys : List Nat) (w : World) (h1 : Nums w v1 xs) (h2 : Nums w v2 ys) (b1 : xs.length ≤ 1000000000) (b2 : ys.length ≤ 1000000000) :
    Calls Tryd.prog 73 #[v1, v2] w fun e w' => e = .returned (.int .i64 (cmpI (val xs) (val ys))) ∧ w = w' := by
  have HN1 := hide h1
  have HN2 := hide h2
  have HO1 := hide h1.ok
  have HO2 := hide h2.ok
  obtain ⟨_, a1, c1, rfl, hl1, hm1, _⟩ := h1
  obtain ⟨_, a2, c2, rfl, hl2, hm2, _⟩ := h2
  unfold maxLen at hm1 hm2
  go_enter Tryd.func73, Tryd.ntmps73
  go_wp2
  all_goals
    go_loop [5] (fun iv => ∃ k : Nat, k ≤ xs.length + ys.length ∧ iv = .int .i64 ((k : Int) - 1) ∧ Hid (∀ j, k ≤ j → lm xs j = lm ys j)) (fun iv => (intOf iv + 1).toNat)
    case atStart =>
      first
      | exact ⟨ys.length, by omega, rfl, fun j hj => by rw [lm_over xs j (by omega), lm_over ys j (by omega)]⟩
      | exact ⟨xs.length, by omega, rfl, fun j hj => by rw [lm_over xs j (by omega), lm_over ys j (by omega)]⟩
    case round =>
      obtain ⟨k, hk, rfl, HA⟩ := hrel
      cases k with
      | zero =>
        go_wp2
        go_ret
        have e := val_eq_lm (xs.length + ys.length) xs ys (by omega) (by omega) (fun j => HA.out j (Nat.zero_le _))
        exact ⟨by simp [cmpI, e], rfl⟩
      | succ k =>
        rw [show (((k + 1 : Nat) : Int) - 1) = (k : Int) from by omega]
        have hx := HO1.out.at k
        have hy := HO2.out.at k
        unfold BB at hx hy
        have tri : lm xs k < lm ys k ∨ lm ys k < lm xs k ∨ lm xs k = lm ys k := by omega
        rcases tri with hlt | hgt | heq
        · have hltI : ((lm xs k : Nat) : Int) < ((lm ys k : Nat) : Int) := by omega
          go_wp2_with fail
          refine (rat_any _ xs k _ HN1.out (by omega)).mono ?_
          rintro e w5 ⟨rfl, rfl⟩
          go_wp2_with fail
          refine (rat_any _ ys k _ HN2.out (by omega)).mono ?_
          rintro e w5 ⟨rfl, rfl⟩
          go_wp2
          go_ret
          have e := val_lt_lm k HO1.out HO2.out hlt HA.out
          exact ⟨by simp [cmpI, e], rfl⟩
        · have hltI : ¬ ((lm xs k : Nat) : Int) < ((lm ys k : Nat) : Int) := by omega
          have hgtI : ((lm ys k : Nat) : Int) < ((lm xs k : Nat) : Int) := by omega
          go_wp2_with fail
          refine (rat_any _ xs k _ HN1.out (by omega)).mono ?_
          rintro e w5 ⟨rfl, rfl⟩
          go_wp2_with fail
          refine (rat_any _ ys k _ HN2.out (by omega)).mono ?_
          rintro e w5 ⟨rfl, rfl⟩
          go_wp2
          go_ret
          have e := val_lt_lm k HO2.out HO1.out hgt (fun j hj => (HA.out j hj).symm)
          have e2 : ¬ val xs < val ys := by omega
          exact ⟨by simp [cmpI, e, e2], rfl⟩
        · have HEQ := hide heq
          have hltI : ¬ ((lm xs k : Nat) : Int) < ((lm ys k : Nat) : Int) := by omega
          have hgtI : ¬ ((lm ys k : Nat) : Int) < ((lm xs k : Nat) : Int) := by omega
          clear heq
          go_wp2_with fail
          refine (rat_any _ xs k _ HN1.out (by omega)).mono ?_
          rintro e w5 ⟨rfl, rfl⟩
          go_wp2_with fail
          refine (rat_any _ ys k _ HN2.out (by omega)).mono ?_
          rintro e w5 ⟨rfl, rfl⟩
          go_wp2
          go_round
          case rel => exact ⟨k, by omega, by go_num, fun j hj => by rcases Nat.lt_or_eq_of_le hj with h | rfl; exact HA.out j h; exact HEQ.out⟩
          case measure => simp [intOf]

/-- what the law holds a list against that it handed in -/
theorem nums_drop {w : World} {g n cap k : Nat} {xs : List Nat} (h : Nums w (.slice (some ⟨g, 0, none⟩) n cap) xs) (hk : k ≤ xs.length) : Nums w (.slice (some ⟨g, k, none⟩) (n - k) (cap - k)) (xs.drop k) := by
  obtain ⟨ho, a, cap', he, h1, h2, h3⟩ := h
  simp only [Value.slice.injEq] at he
  obtain ⟨rfl, rfl, rfl⟩ := he
  refine ⟨ho.drop k, _, cap - k, by rw [List.length_drop], by rw [List.length_drop]; omega, by omega, fun hne => ⟨g, k, rfl, fun i hi => ?_⟩⟩
  rw [List.length_drop] at hi
  obtain ⟨b, off, hb, hc⟩ := h3 (ne_nil (k := k + i) (by omega))
  simp only [Option.some.injEq, Addr.mk.injEq, and_true] at hb
  obtain ⟨rfl, rfl⟩ := hb
  have := hc (k + i) (by omega)
  rw [Nat.zero_add] at this
  rw [this]
  simp [lm, List.getElem?_drop]

set_option maxRecDepth 100000 in
set_option maxHeartbeats 1000000 in
theorem kept_any (v1 v2 : Value) (xs : List Nat) (w : World) (h1 : RoomOf w v1 xs) (h2 : Nums w v2 xs) (hlen : xs.length ≤ 1000000000) :
    Calls Tryd.prog 17 #[v1, v2] w fun e w' => e = .returned (.bool true) ∧ Below w.heap.size w w' := by
  have HR := hide h1
  have HN2 := hide h2
  have HN1 := hide h1.nums
  obtain ⟨g, cap, rfl, hN⟩ := h1
  obtain ⟨_, a2, c2, rfl, hl2, hm2, _⟩ := h2
  have hcap : xs.length + 2 ≤ cap ∧ cap ≤ maxLen := by
    obtain ⟨_, a, c', he, h1, h2, _⟩ := hN
    simp only [Value.slice.injEq] at he
    obtain ⟨_, _, rfl⟩ := he
    simp at h1; exact ⟨h1, h2⟩
  obtain ⟨hcap1, hcap2⟩ := hcap
  have HD := hide (nums_drop (k := xs.length) hN (by simp))
  clear hN
  unfold maxLen at hm2 hcap2
  go_enter Tryd.func17, Tryd.ntmps17
  go_wp2_with fail
  refine (equal_yes _ _ xs _ HN1.out HN2.out).mono ?_
  rintro e w1 ⟨rfl, hb1⟩
  have HD1 := hide (HD.out.below hb1)
  clear HD
  go_wp2_with fail
  have e1 : (xs ++ [77, 78]).drop xs.length = [77, 78] := by simp
  have nd := (HD1.out.below (below_alloc w1 (.cells #[.int .u32 77, .int .u32 78] 32)))
  rw [e1, show xs.length + 2 - xs.length = 2 from by omega] at nd
  refine (equal_yes _ _ [77, 78] _ nd (nums_lit2 w1 _ _ _ _ _ rfl rfl (by decide) (by decide))).mono ?_
  rintro e w2 ⟨rfl, hb2⟩
  have HB := hide (hb1.trans (((below_alloc w1 _).trans (hb2.mono (by simp))).mono hb1.size))
  clear hb2 nd e1 hb1
  go_wp2
  go_ret
  exact ⟨rfl, HB.out⟩

theorem drop_zero_of {xs ys : List Nat} (h1 : Ok xs) (h : ¬ val xs < val ys) : val (ys.take xs.length) = val ys := by
  have e : val ys = val (ys.take xs.length) + BB ^ (ys.take xs.length).length * val (ys.drop xs.length) := by rw [← val_append, List.take_append_drop]
  by_cases hl : ys.length ≤ xs.length
  · rw [List.take_of_length_le hl]
  · have hlen : (ys.take xs.length).length = xs.length := by rw [List.length_take]; omega
    rw [hlen] at e
    have hx := val_lt h1
    rcases Nat.eq_zero_or_pos (val (ys.drop xs.length)) with h0 | h0
    · rw [h0] at e; simpa using e.symm
    · have : BB ^ xs.length ≤ BB ^ xs.length * val (ys.drop xs.length) := Nat.le_mul_of_pos_right _ h0
      omega

theorem rsub_last {xs ys acc : List Nat} {b : Nat} (hat : SubAt xs ys xs.length b acc) (h1 : Ok xs) (h : ¬ val xs < val ys) : val acc = val xs - val ys := by
  have hs := hat.sum
  rw [List.take_length, drop_zero_of h1 h] at hs
  have hv := val_lt hat.ok
  rw [hat.len] at hv
  have hb := hat.b1
  have : b = 0 := by
    by_cases e : b = 0
    · exact e
    · have : b = 1 := by omega
      subst this; omega
  subst this
  omega

set_option maxRecDepth 100000 in
set_option maxHeartbeats 1000000 in
theorem rsub_any (v1 v2 : Value) (xs ys : List Nat) (w : World) (h1 : Nums w v1 xs) (h2 : Nums w v2 ys) (b1 : xs.length ≤ 100000000) (hge : ¬ val xs < val ys) :
    Calls Tryd.prog 74 #[v1, v2] w fun e w' => ∃ v', e = .returned v' ∧ Own w' w.heap.size v' (lim (val xs - val ys)) ∧ Below w.heap.size w w' := by
  obtain ⟨i0, hi, hz0, hz1, hz2⟩ := info_parts Tryd.info32
  have HN1 := hide h1
  have HN2 := hide h2
  have HO1 := hide h1.ok
  have HO2 := hide h2.ok
  have HGE := hide hge
  obtain ⟨_, a1, c1, rfl, hl1, hm1, _⟩ := h1
  obtain ⟨_, a2, c2, rfl, hl2, hm2, _⟩ := h2
  unfold maxLen at hm1 hm2
  clear hge
  go_enter Tryd.func74, Tryd.ntmps74
  go_wp2
  go_loopw [5, 6, 7] (fun ov bv iv wr => ∃ (k b : Nat) (acc : List Nat), k ≤ xs.length ∧ iv = .int .i64 k ∧ bv = .int .u64 b ∧ SubAt xs ys k b acc ∧ Own wr w.heap.size ov acc ∧ Below w.heap.size w wr) (fun _ _ iv _ => xs.length - (intOf iv).toNat)
  case atStart => exact ⟨0, 0, [], Nat.zero_le _, rfl, rfl, SubAt.zero _ _, World.ownsRow_nil _ _ _ _, Below.refl _ _⟩
  case round =>
    obtain ⟨k, b, acc, hk, rfl, rfl, hat, hO, hB⟩ := hrel
    have hbb := hat.b1
    have hal : acc.length ≤ xs.length := by rw [hat.len]; exact hk
    have HAT := hide hat
    have HO := hide hO
    have HB := hide hB
    have hsz := hB.size
    clear hat hO hB
    by_cases hlt : k < xs.length
    · have hx := HO1.out.at k
      have hy := HO2.out.at k
      unfold BB at hx hy
      by_cases hcmp : lm xs k < lm ys k + b
      · have hcI : ((lm xs k : Nat) : Int) < ((lm ys k : Nat) : Int) + (b : Int) := by omega
        go_wp2_with fail
        refine (rat_any _ xs k _ (HN1.out.below HB.out) (by omega)).mono ?_
        rintro e w5 ⟨rfl, rfl⟩
        go_wp2_with fail
        refine (rat_any _ ys k _ (HN2.out.below HB.out) (by omega)).mono ?_
        rintro e w5 ⟨rfl, rfl⟩
        go_wp2_with (at_builtin; refine wpList_append_own _ rfl _ _ 22 rfl w.heap.size 32 i0 (.int .u32 0) 1 4 Tryd.underlying22 hi hz0 hz1 hz2 rfl (by decide) _ _ _ rfl (World.ownsRow.alloc HO.out _) ⟨_, 0, none⟩ 1 1 [.int .u32 (((lm xs k : Int) + 4294967296 - ((lm ys k : Int) + (b : Int))))] rfl rfl ?_ ?_ ?_ ?_ ?_ ?_)
        · intro i u hi'
          match i, hi' with
          | 0, hi' => simp at hi'; subst hi'; simp [Addr.add]
        · intro u hu; simp at hu; subst hu; rfl
        · unfold maxLen; omega
        · omega
        · simp; omega
        · intro v6 w6 hown6 hgrow6 _
          obtain ⟨hO6, hB6⟩ := append_own_step (n := lm xs k + 4294967296 - (lm ys k + b)) (by omega) HO.out hown6 hgrow6 HB.out (Nat.le_refl _)
          clear hown6 hgrow6
          go_wp2
          go_roundw
          case rel => exact ⟨k + 1, 1, _, by omega, by go_num, rfl, HAT.out.step (by unfold BB; omega) (Nat.le_refl _) (by unfold BB; omega), hO6, hB6⟩
          case measure => simp [intOf]; omega
      · have hcI : ¬ ((lm xs k : Nat) : Int) < ((lm ys k : Nat) : Int) + (b : Int) := by omega
        go_wp2_with fail
        refine (rat_any _ xs k _ (HN1.out.below HB.out) (by omega)).mono ?_
        rintro e w5 ⟨rfl, rfl⟩
        go_wp2_with fail
        refine (rat_any _ ys k _ (HN2.out.below HB.out) (by omega)).mono ?_
        rintro e w5 ⟨rfl, rfl⟩
        go_wp2_with (at_builtin; refine wpList_append_own _ rfl _ _ 22 rfl w.heap.size 32 i0 (.int .u32 0) 1 4 Tryd.underlying22 hi hz0 hz1 hz2 rfl (by decide) _ _ _ rfl (World.ownsRow.alloc HO.out _) ⟨_, 0, none⟩ 1 1 [.int .u32 (((lm xs k : Int) - ((lm ys k : Int) + (b : Int))))] rfl rfl ?_ ?_ ?_ ?_ ?_ ?_)
        · intro i u hi'
          match i, hi' with
          | 0, hi' => simp at hi'; subst hi'; simp [Addr.add]
        · intro u hu; simp at hu; subst hu; rfl
        · unfold maxLen; omega
        · omega
        · simp; omega
        · intro v6 w6 hown6 hgrow6 _
          obtain ⟨hO6, hB6⟩ := append_own_step (n := lm xs k - (lm ys k + b)) (by omega) HO.out hown6 hgrow6 HB.out (Nat.le_refl _)
          clear hown6 hgrow6
          go_wp2
          go_roundw
          case rel => exact ⟨k + 1, 0, _, by omega, by go_num, rfl, HAT.out.step (by unfold BB; omega) (by omega) (by unfold BB; omega), hO6, hB6⟩
          case measure => simp [intOf]; omega
    · have hkL : k = xs.length := by omega
      subst hkL
      go_wp2_with fail
      refine (rnorm_any _ acc _ (HO.out.nums HAT.out.ok) (by omega)).mono ?_
      rintro e w5 ⟨v5, rfl, hO5, hb5⟩
      rw [rsub_last HAT.out HO1.out HGE.out] at hO5
      go_wp2
      go_ret
      exact ⟨_, rfl, hO5.mono hsz, HB.out.trans (hb5.mono hsz)⟩
end Go.Proofs.YtmibgcpafccliaaDoor
