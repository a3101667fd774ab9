/- The document's answers for layer 2 (swageref02): Limbs. -/
import Derived.Test.YtnldhpleicpjfaaR2Make
namespace Go.Proofs.Ytnldhpleicpjfaa
open Go.RowKit

/-- one more limb behind what is owned -/
theorem own_step {w5 w6 w1 : World} {base T : Nat} {v5 v6 : Value} {acc : List Nat} {x : Int} {n : Nat} (hx : x = (n : Int)) {o : Obj} (hO : Own w5 base v5 acc)
    (hown6 : w6.ownsRow base 81 1 v6 (acc.length + 1) (ints acc ++ [Value.int .u32 x])) (hgrow6 : (w5.alloc o).grownBy w6 v5.ownBlock) (hB5 : Below T w1 w5) (hT : T ≤ w5.heap.size) (hb : T ≤ base) :
    Own w6 base v6 (acc ++ [n]) ∧ Below T w1 w6 := by
  constructor
  · subst hx
    have e1 : ints acc ++ [Value.int .u32 (n : Int)] = ints (acc ++ [n]) := by simp [ints]
    rw [e1] at hown6
    show World.ownsRow _ _ _ _ _ _ _; simpa using hown6
  · exact (hB5.alloc hT o).grown hgrow6 (by simp; omega) (fun k hk => Nat.le_trans hb (hO.lt k hk).1)

/-- two digits a limb -/
def jnd (ds : List Nat) (k : Nat) : List Nat := (List.range k).map fun j => lm ds (2 * j) + 65536 * lm ds (2 * j + 1)
theorem jnd_length (ds : List Nat) (k : Nat) : (jnd ds k).length = k := by simp [jnd]
theorem jnd_succ (ds : List Nat) (k : Nat) : jnd ds (k + 1) = jnd ds k ++ [lm ds (2 * k) + 65536 * lm ds (2 * k + 1)] := by simp [jnd, List.range_succ]
theorem dlm_lt {ds : List Nat} (h : D.Ok ds) (i : Nat) : lm ds i < 65536 := h.at i
theorem jnd_ok {ds : List Nat} (h : D.Ok ds) (k : Nat) : Ok (jnd ds k) := by
  intro x hx
  obtain ⟨j, _, rfl⟩ := List.mem_map.1 hx
  have h1 := dlm_lt h (2 * j)
  have h2 := dlm_lt h (2 * j + 1)
  unfold BB; omega
theorem dtake_succ (ds : List Nat) (k : Nat) : D.val (ds.take (k + 1)) = D.val (ds.take k) + 65536 ^ k * lm ds k := by
  by_cases h : k < ds.length
  · exact D.take_succ_val ds k h
  · rw [List.take_of_length_le (by omega), List.take_of_length_le (by omega), lm_over _ _ (by omega)]; simp
theorem bb_pow (k : Nat) : BB ^ k = 65536 ^ (2 * k) := by rw [Nat.pow_mul]; rfl
theorem jnd_val (ds : List Nat) (k : Nat) : val (jnd ds k) = D.val (ds.take (2 * k)) := by
  induction k with
  | zero => rfl
  | succ k ih =>
    rw [jnd_succ, val_append, jnd_length, ih, show 2 * (k + 1) = 2 * k + 1 + 1 from by omega, dtake_succ, dtake_succ, bb_pow, Nat.pow_succ]
    simp only [val, Nat.mul_zero, Nat.add_zero]
    rw [Nat.mul_add, Nat.add_assoc, Nat.mul_assoc]
theorem dlim_last {n : Nat} (h : 0 < (D.lim n).length) : lm (D.lim n) ((D.lim n).length - 1) ≠ 0 := by
  revert h
  refine D.lim_ind (p := fun n => 0 < (D.lim n).length → lm (D.lim n) ((D.lim n).length - 1) ≠ 0) (fun h => by simp [D.lim_zero] at h) (fun n hn ih _ => ?_) n
  rw [D.lim_pos hn]
  by_cases h0 : D.lim (n / D.BB) = []
  · rw [h0]
    have hz : n / D.BB = 0 := by rw [← D.val_lim (n / D.BB), h0]; rfl
    have : n % D.BB = n := Nat.mod_eq_of_lt ((Nat.div_eq_zero_iff_lt D.BB_pos).1 hz)
    simp [lm, this]; omega
  · have hp : 0 < (D.lim (n / D.BB)).length := List.length_pos_iff.2 h0
    have := ih hp
    obtain ⟨m, hm⟩ : ∃ m, (D.lim (n / D.BB)).length = m + 1 := ⟨_, (Nat.succ_pred_eq_of_pos hp).symm⟩
    rw [List.length_cons, hm] 
    rw [hm] at this
    simpa [lm] using this
theorem jnd_lim {n k : Nat} (h1 : (D.lim n).length ≤ 2 * k) (h2 : 2 * k ≤ (D.lim n).length + 1) : jnd (D.lim n) k = lim n := by
  have hv : val (jnd (D.lim n) k) = n := by rw [jnd_val, List.take_of_length_le h1, D.val_lim]
  have := lim_val (jnd_ok (D.ok_lim n) k) (fun x hx => ?_)
  · rw [← this, hv]
  · cases k with
    | zero => simp [jnd] at hx
    | succ k =>
      rw [jnd_succ, List.getLast?_concat] at hx
      simp only [Option.some.injEq] at hx
      subst hx
      have hp : 0 < (D.lim n).length := by omega
      have hl := dlim_last hp
      by_cases e : (D.lim n).length = 2 * k + 1
      · rw [e, show 2 * k + 1 - 1 = 2 * k from by omega] at hl; omega
      · have e' : (D.lim n).length = 2 * k + 2 := by omega
        rw [e', show 2 * k + 2 - 1 = 2 * k + 1 from by omega] at hl; omega

set_option maxRecDepth 100000 in
set_option maxHeartbeats 2000000 in
theorem rlimbs_any (v : Value) (z : Int) (w : World) (h : RInt w v z) (hl : (D.lim z.natAbs).length ≤ 1000000000) :
    Calls Try.prog 43 #[v] w fun e w' => ∃ v', e = .returned v' ∧ Nums w' v' (lim z.natAbs) ∧ Below w.heap.size w w' := by
  obtain ⟨i0, hi, hz0, hz1, hz2⟩ := info_parts Try.info81
  obtain ⟨s, N, a, cap, rfl, hn, rfl, _⟩ := h
  rw [sg_abs] at hl ⊢
  obtain ⟨ds, hds⟩ : ∃ ds, ds = D.lim N := ⟨_, rfl⟩
  have HJ : Hid (∀ k, ds.length ≤ 2 * k → 2 * k ≤ ds.length + 1 → jnd ds k = lim N) := hide (by rw [hds]; exact fun k => jnd_lim)
  have HOK : Hid (D.Ok ds) := hide (by rw [hds]; exact D.ok_lim N)
  rw [← hds] at hn hl ⊢
  clear hds
  have HN := hide hn
  obtain ⟨_, a', c', he, hlc, hm, _⟩ := hn
  simp only [Value.slice.injEq] at he
  obtain ⟨rfl, _, rfl⟩ := he
  unfold maxLen at hm
  go_enter Try.func43, Try.ntmps43
  go_wp2
  go_loopw [3, 4] (fun lv iv wr => ∃ k i : Nat, Hid (i = 2 * k) ∧ i ≤ ds.length + 1 ∧ iv = .int .i64 i ∧ Own wr (w.heap.size + 1) lv (jnd ds k) ∧ Below (w.heap.size + 1) (w.alloc (.cells #[.bool s, .slice a ds.length cap] 30)) wr) (fun _ iv _ => ds.length + 2 - (intOf iv).toNat)
  case atStart => exact ⟨0, 0, rfl, Nat.zero_le _, rfl, World.ownsRow_nil _ _ _ _, Below.refl _ _⟩
  case round =>
    obtain ⟨k, i, HIK, hk, rfl, hO, hbel⟩ := hrel
    have HO := hide hO
    have HBE := hide hbel
    have HX := hide ((Box2.new w _ _ _).below hbel (Nat.lt_succ_self _))
    have hx1 := HX.out.cell1
    clear hO hbel
    by_cases hlt : i < ds.length
    · have HNr := hide (HN.out.below ((below_alloc w _).trans (HBE.out.mono (Nat.le_succ _))))
      obtain ⟨blk, off, rfl, hc⟩ : ∃ blk off, a = some ⟨blk, off, none⟩ ∧ ∀ i, i < ds.length → wr.cell? ⟨blk, off + i, none⟩ = some (.int .u32 (lm ds i : Nat)) := by
        obtain ⟨_, a', c', he, _, _, h3⟩ := HNr.out
        simp only [Value.slice.injEq] at he
        obtain ⟨rfl, _, rfl⟩ := he
        obtain ⟨b, off, rfl, hc⟩ := h3 (ne_nil hlt)
        exact ⟨b, off, rfl, hc⟩
      have hc0 := hc i hlt
      have hd0 := dlm_lt HOK.out i
      have hln : (jnd ds k).length ≤ 600000000 := by rw [jnd_length]; have := HIK.out; omega
      have hbs := HBE.out.size
      rw [World.size_alloc] at hbs
      by_cases hlt2 : i + 1 < ds.length
      · have hc1 := hc (i + 1) hlt2
        have hd1 := dlm_lt HOK.out (i + 1)
        clear hc HNr
        go_wp2_with (at_builtin; refine wpList_append_own _ rfl _ _ 22 rfl (w.heap.size + 1) 81 i0 (.int .u32 0) 1 4 Try.underlying22 hi hz0 hz1 hz2 rfl (by decide) _ _ _ rfl (World.ownsRow.alloc HO.out _) ⟨_, 0, none⟩ 1 1 [.int .u32 (((lm ds i : Int) + 65536 * (lm ds (i + 1) : Int)))] rfl rfl ?_ ?_ ?_ ?_ ?_ ?_)
        · intro i u hi'
          match i, hi' with
          | 0, hi' => simp at hi'; subst hi'; simp [Addr.add]
        · intro u hu; simp at hu; subst hu; rfl
        · unfold maxLen; omega
        · omega
        · simp; omega
        · intro v6 w6 hown6 hgrow6 _
          obtain ⟨hO6, hB6⟩ := own_step (n := lm ds i + 65536 * lm ds (i + 1)) (by omega) HO.out hown6 hgrow6 HBE.out hbs (Nat.le_refl _)
          have HO6 := hide hO6
          have HB6 := hide hB6
          clear hown6 hgrow6 hO6 hB6
          go_wp2
          go_roundw
          case rel => exact ⟨k + 1, i + 2, by have := HIK.out; show i + 2 = 2 * (k + 1); omega, by omega, by go_num, by rw [jnd_succ, ← HIK.out]; exact HO6.out, HB6.out⟩
          case measure => simp [intOf]; omega
      · have HZ := hide (lm_over ds (i + 1) (by omega))
        clear hc HNr
        go_wp2_with (at_builtin; refine wpList_append_own _ rfl _ _ 22 rfl (w.heap.size + 1) 81 i0 (.int .u32 0) 1 4 Try.underlying22 hi hz0 hz1 hz2 rfl (by decide) _ _ _ rfl (World.ownsRow.alloc HO.out _) ⟨_, 0, none⟩ 1 1 [.int .u32 (((lm ds i : Int)))] rfl rfl ?_ ?_ ?_ ?_ ?_ ?_)
        · intro i u hi'
          match i, hi' with
          | 0, hi' => simp at hi'; subst hi'; simp [Addr.add]
        · intro u hu; simp at hu; subst hu; rfl
        · unfold maxLen; omega
        · omega
        · simp; omega
        · intro v6 w6 hown6 hgrow6 _
          obtain ⟨hO6, hB6⟩ := own_step (n := lm ds i) rfl HO.out hown6 hgrow6 HBE.out hbs (Nat.le_refl _)
          have HO6 := hide hO6
          have HB6 := hide hB6
          clear hown6 hgrow6 hO6 hB6
          go_wp2
          go_roundw
          case rel => exact ⟨k + 1, i + 2, by have := HIK.out; show i + 2 = 2 * (k + 1); omega, by omega, by go_num, by rw [jnd_succ, ← HIK.out, HZ.out, Nat.mul_zero, Nat.add_zero]; exact HO6.out, HB6.out⟩
          case measure => simp [intOf]; omega
    · go_wp2
      go_ret
      refine ⟨_, rfl, ?_, (below_alloc w _).trans (HBE.out.mono (Nat.le_succ _))⟩
      have e := HIK.out
      rw [← HJ.out k (by omega) (by omega)]
      exact HO.out.nums (jnd_ok HOK.out _)
end Go.Proofs.Ytnldhpleicpjfaa
