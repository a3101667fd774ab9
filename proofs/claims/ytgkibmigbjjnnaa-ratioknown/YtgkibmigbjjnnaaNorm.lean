/- limb.Norm answers a new list, without the high noughts; limb.Cmp holds two numbers against each other. -/
import Derived.Test.YtgkibmigbjjnnaaLists
import Derived.Laws.AppendOwnNone
namespace Go.Proofs.Ytgkibmigbjjnnaa
open Go.RowKit

theorem Try.info84 : (Try.prog.info? 84).map (fun i => (i.zero, i.size, i.bytes)) = some (some (.int .u32 0), 1, 4) := by kernel_rfl

/-- a new list of limbs -/
def Own (w : World) (base : Nat) (v : Value) (xs : List Nat) : Prop := w.ownsRow base 84 1 v xs.length (ints xs)

theorem Own.nums {w : World} {base : Nat} {v : Value} {xs : List Nat} (h : Own w base v xs) (ho : Ok xs) : Nums w v xs := nums_of_row ho rfl h

set_option maxRecDepth 100000 in
set_option maxHeartbeats 400000 in
theorem norm_any (v : Value) (xs : List Nat) (w : World) (h : Nums w v xs) (hlen : xs.length ≤ 1000000000) :
    Calls Try.prog 72 #[v] w fun e w' => ∃ v', e = .returned v' ∧ Own w' w.heap.size v' (lim (val xs)) ∧ Nums w' v' (lim (val xs)) ∧ Below w.heap.size w w' := by
  obtain ⟨i0, hi, hz0, hz1, hz2⟩ := info_parts Try.info84
  have hle := lim_val_length h.ok
  go_enter Try.func72, Try.ntmps72
  go_wp2_with fail
  refine (trim_any v xs _ h).mono ?_
  rintro e w1 ⟨v1, rfl, rfl, hN1, _⟩
  have HN : Hid (Nums w v1 (lim (val xs))) := hN1
  obtain ⟨_, a, cap, rfl, hl, hm, _⟩ := hN1
  cases a with
  | none =>
    have hnil : (lim (val xs)) = [] := by
      by_cases e : lim (val xs) = []
      · exact e
      · obtain ⟨_, a', cap', he, _, _, h3⟩ := HN.out
        simp only [Value.slice.injEq] at he
        obtain ⟨b, off, hb, _⟩ := h3 e
        rw [hb] at he; simp at he
    go_wp2
    go_ret
    refine ⟨_, rfl, ?_, ?_, Below.refl _ _⟩
    · rw [hnil]; exact World.ownsRow_nil _ _ _ _
    · rw [hnil]; exact Nums.nil_mk _ _ _ (Nat.zero_le _)
  | some ad =>
    go_wp2_with (at_builtin; refine wpList_append_own _ rfl _ _ 23 rfl w.heap.size 84 i0 (.int .u32 0) 1 4 Try.underlying23 hi hz0 hz1 hz2 rfl (by decide) _ _ _ rfl (World.ownsRow_nil _ _ _ _) ad _ _ (ints (lim (val xs))) rfl HN.out.news.1 HN.out.news.2 (ints_one _) ?c3 ?c4 (Nat.le_refl _) ?_)
    case c3 => unfold maxLen; omega
    case c4 => omega
    intro v' w1 hown hgrow _
    have hO : Own w1 w.heap.size v' (lim (val xs)) := by unfold Own; simpa using hown
    have hB : Below w.heap.size w w1 := (Below.refl _ _).grown hgrow (Nat.le_refl _) (fun k hk => by simp [Value.ownBlock] at hk)
    clear hown hgrow
    go_wp2
    go_ret
    exact ⟨_, rfl, hO, hO.nums (ok_lim _), hB⟩

def cmpI (m n : Nat) : Int := if m < n then -1 else if n < m then 1 else 0

theorem val_lt_of_top : ∀ {xs ys : List Nat} {k : Nat}, xs.length = ys.length → Ok xs → Ok ys → k < xs.length → lm xs k < lm ys k → (∀ j, k + 1 ≤ j → lm xs j = lm ys j) → val xs < val ys := by
  intro xs
  induction xs with
  | nil => intro ys k _ _ _ h; simp at h
  | cons x xs ih =>
    intro ys k hl ho1 ho2 hk hlt htop
    cases ys with
    | nil => simp at hl
    | cons y ys =>
      have hx := ho1.head
      have hy := ho2.head
      simp only [val]
      cases k with
      | zero =>
        have he : xs = ys := lists_eq (by simpa using hl) (fun i _ => by simpa [lm] using htop (i + 1) (by omega))
        subst he
        have : x < y := by simpa [lm] using hlt
        omega
      | succ k =>
        have h1 : val xs < val ys := ih (k := k) (by simpa using hl) ho1.tail ho2.tail (by simpa using hk) (by simpa [lm] using hlt) (fun j hj => by simpa [lm] using htop (j + 1) (by omega))
        have h2 : BB * (val xs + 1) ≤ BB * val ys := Nat.mul_le_mul_left _ h1
        rw [Nat.mul_add, Nat.mul_one] at h2
        omega

set_option maxRecDepth 100000 in
set_option maxHeartbeats 1000000 in
theorem cmp_any (v1 v2 : Value) (xs ys : List Nat) (w : World) (h1 : Nums w v1 xs) (h2 : Nums w v2 ys) :
    Calls Try.prog 71 #[v1, v2] w fun e w' => e = .returned (.int .i64 (cmpI (val xs) (val ys))) ∧ Below w.heap.size w w' := by
  have HN2 : Hid (Nums w v2 ys) := h2
  go_enter Try.func71, Try.ntmps71
  go_wp2_with fail
  refine (trim_any v1 xs _ h1).mono ?_
  rintro e w1 ⟨v1', rfl, rfl, hN1, _⟩
  go_wp2_with fail
  refine (trim_any v2 ys _ HN2.out).mono ?_
  rintro e w1 ⟨v2', rfl, rfl, hN2, _⟩
  clear h1 h2 HN2
  have HM : Hid (val (lim (val xs)) = val xs) := val_lim _
  have HN : Hid (val (lim (val ys)) = val ys) := val_lim _
  obtain ⟨ho1, a1, c1, rfl, hl1, hm1, hc1⟩ := hN1
  obtain ⟨ho2, a2, c2, rfl, hl2, hm2, hc2⟩ := hN2
  have HC1 : Hid (lim (val xs) ≠ [] → ∃ b off, a1 = some ⟨b, off, none⟩ ∧ ∀ i, i < (lim (val xs)).length → w.cell? ⟨b, off + i, none⟩ = some (.int .u32 (lm (lim (val xs)) i : Nat))) := hc1
  have HC2 : Hid (lim (val ys) ≠ [] → ∃ b off, a2 = some ⟨b, off, none⟩ ∧ ∀ i, i < (lim (val ys)).length → w.cell? ⟨b, off + i, none⟩ = some (.int .u32 (lm (lim (val ys)) i : Nat))) := hc2
  have HLL : Hid ((lim (val xs)).length < (lim (val ys)).length → val xs < val ys) := fun h => lim_len_lt h
  have HGG : Hid ((lim (val ys)).length < (lim (val xs)).length → val ys < val xs) := fun h => lim_len_lt h
  clear hc1 hc2
  unfold maxLen at hm1 hm2
  generalize lim (val xs) = L1 at *
  generalize lim (val ys) = L2 at *
  by_cases hA : L1.length < L2.length
  · go_wp2
    go_ret
    have := HLL.out hA
    exact ⟨by simp [cmpI, this], Below.refl _ _⟩
  · by_cases hB : L2.length < L1.length
    · go_wp2
      go_ret
      have := HGG.out hB
      have h' : ¬ val xs < val ys := by omega
      exact ⟨by simp [cmpI, this, h'], Below.refl _ _⟩
    · have HE : Hid (L1.length = L2.length) := by show L1.length = L2.length; omega
      go_wp2
      go_loopw [5] (fun i wr => ∃ k : Nat, k ≤ L1.length ∧ i = .int .i64 ((k : Int) - 1) ∧ (∀ j, k ≤ j → lm L1 j = lm L2 j) ∧ Below w.heap.size w wr) (fun i _ => (intOf i + 1).toNat)
      case atStart => exact ⟨L1.length, Nat.le_refl _, by go_num, fun j hj => by rw [lm_over _ _ hj, lm_over _ _ (by have := HE.out; omega)], Below.refl _ _⟩
      case round =>
        obtain ⟨k, hk, rfl, hag, hbel⟩ := hrel
        have HA : Hid (∀ j, k ≤ j → lm L1 j = lm L2 j) := hag
        clear hag
        cases k with
        | zero =>
          go_wp2
          go_ret
          have hxy : L1 = L2 := lists_eq HE.out (fun i _ => HA.out i (Nat.zero_le _))
          have : val xs = val ys := by rw [← HM.out, ← HN.out, hxy]
          exact ⟨by simp [cmpI, this], hbel⟩
        | succ k =>
          have hk2 : k < L1.length := by omega
          have hk3 : k < L2.length := by omega
          obtain ⟨b1, o1, rfl, hx⟩ := HC1.out (ne_nil hk2)
          obtain ⟨b2, o2, rfl, hy⟩ := HC2.out (ne_nil hk3)
          have hx' : wr.cell? ⟨b1, o1 + k, none⟩ = some (.int .u32 (lm L1 k : Nat)) := by rw [hbel.cell (World.block_lt_of_cell? w _ (hx k hk2))]; exact hx k hk2
          have hy' : wr.cell? ⟨b2, o2 + k, none⟩ = some (.int .u32 (lm L2 k : Nat)) := by rw [hbel.cell (World.block_lt_of_cell? w _ (hy k hk3))]; exact hy k hk3
          clear hx hy HC1 HC2
          by_cases hlt : lm L1 k < lm L2 k
          · have hlt' : ((lm L1 k : Nat) : Int) < ((lm L2 k : Nat) : Int) := by omega
            go_wp2
            go_quiet (fail)
            go_wp2
            go_ret
            have : val xs < val ys := by rw [← HM.out, ← HN.out]; exact val_lt_of_top HE.out ho1 ho2 hk2 hlt HA.out
            exact ⟨by simp [cmpI, this], below_drewN hbel _⟩
          · by_cases hgt : lm L2 k < lm L1 k
            · have hlt' : ¬ ((lm L1 k : Nat) : Int) < ((lm L2 k : Nat) : Int) := by omega
              have hgt' : ((lm L2 k : Nat) : Int) < ((lm L1 k : Nat) : Int) := by omega
              go_wp2
              go_quiet (fail)
              go_wp2
              go_quiet (fail)
              go_wp2
              go_ret
              have h3 : val ys < val xs := by rw [← HM.out, ← HN.out]; exact val_lt_of_top HE.out.symm ho2 ho1 hk3 hgt (fun j hj => (HA.out j hj).symm)
              have h4 : ¬ val xs < val ys := by omega
              exact ⟨by simp [cmpI, h3, h4], by first | exact below_drewN hbel _ | exact below_drewN (below_drewN hbel _) _⟩
            · have HEK : Hid (lm L1 k = lm L2 k) := by show lm L1 k = lm L2 k; omega
              have hlt' : ¬ ((lm L1 k : Nat) : Int) < ((lm L2 k : Nat) : Int) := by omega
              have hgt' : ¬ ((lm L2 k : Nat) : Int) < ((lm L1 k : Nat) : Int) := by omega
              go_wp2
              go_quiet (fail)
              go_wp2
              go_quiet (fail)
              go_wp2
              go_roundw
              case rel => exact ⟨k, by omega, by go_num, fun j hj => by rcases Nat.lt_or_eq_of_le hj with h | rfl; exact HA.out j h; exact HEK.out, by first | exact below_drewN hbel _ | exact below_drewN (below_drewN hbel _) _⟩
              case measure => simp [intOf]
end Go.Proofs.Ytgkibmigbjjnnaa
