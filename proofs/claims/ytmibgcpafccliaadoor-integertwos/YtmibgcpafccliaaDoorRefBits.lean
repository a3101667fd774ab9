/- The document's answers for layer 1 (swageref01): Bits, Bit, double. -/
import Derived.Test.YtmibgcpafccliaaDoorBitV
import Derived.Test.YtmibgcpafccliaaDoorRefCmp
import Derived.Test.YtmibgcpafccliaaDoorDivAll
import Derived.Laws.BitsAllLaws
namespace Go.Proofs.YtmibgcpafccliaaDoor
open Go.RowKit

set_option maxRecDepth 100000 in
set_option maxHeartbeats 1000000 in
theorem rbits_any (v : Value) (xs : List Nat) (w : World) (h : Nums w v xs) (hlen : xs.length ≤ 10000000) :
    Calls Tryd.prog 12 #[v] w fun e w' => ∃ L : Nat, e = .returned (.int .i64 (L : Nat)) ∧ IsLen (val xs) L ∧ L ≤ 32 * xs.length ∧ Below w.heap.size w w' := by
  have HLL := hide (lim_val_length h.ok)
  have HV := hide (val_lim (val xs))
  have HOK := hide (ok_lim (val xs))
  have HTP := hide (fun hp : 0 < val xs => val_top_div (L := lim (val xs)) (n := (lim (val xs)).length - 1) (ok_lim _) (by have := lim_len_pos hp; omega))
  go_enter Tryd.func12, Tryd.ntmps12
  go_wp2_with fail
  refine (rnorm_any _ xs _ h (by omega)).mono ?_
  rintro e w1 ⟨v1, rfl, hO1, hb1⟩
  have n1 := hO1.nums (ok_lim _)
  obtain ⟨_, a, cap, rfl, hl1, hm1, hc1⟩ := n1
  unfold maxLen at hm1
  clear hO1 h
  have HC := hide hc1
  clear hc1
  by_cases hz : val xs = 0
  · have HZ := hide hz
    rw [hz, lim_zero]
    clear hz
    go_wp2
    go_ret
    exact ⟨0, rfl, by rw [HZ.out]; exact isLen_zero, Nat.zero_le _, hb1⟩
  · have hp : 0 < (lim (val xs)).length := lim_len_pos (Nat.pos_of_ne_zero hz)
    have HZ : Hid (0 < val xs) := Nat.pos_of_ne_zero hz
    have hlz : ((((lim (val xs)).length : Nat) : Int) == 0) = false := by simp; intro h; rw [h] at hp; simp at hp
    have hlb : (lim (val xs)).length ≤ 10000000 := by have := HLL.out; omega
    have HT := hide (HTP.out HZ.out)
    have HTOP := hide (lim_top HZ.out)
    clear hz HTP
    generalize lim (val xs) = L at *
    obtain ⟨b, off, rfl, hx⟩ := HC.out (ne_nil (k := L.length - 1) (by omega))
    have hxt := hx (L.length - 1) (by omega)
    have htb := HOK.out.at (L.length - 1)
    unfold BB at htb
    clear hx HC
    go_wp2
    go_loop [4, 5] (fun nv xv => ∃ i x : Nat, i ≤ 32 ∧ nv = .int .i64 (32 * ((L.length - 1 : Nat) : Int) + (i : Int)) ∧ xv = .int .u32 x ∧ x ≤ 4294967295 ∧ Hid (CntAt (lm L (L.length - 1)) i x)) (fun _ xv => (intOf xv).toNat)
    case atStart => exact ⟨0, _, by omega, by congr 1; omega, rfl, by omega, ⟨by simp, fun h => absurd h (by omega)⟩⟩
    case round =>
      obtain ⟨i, x, hi, rfl, rfl, hx, hat⟩ := hrel
      by_cases hx0 : x = 0
      · subst hx0
        go_wp2
        go_ret
        have hL := hat.out.end
        rw [← HT.out] at hL
        refine ⟨32 * (L.length - 1) + i, ?_, ?_, ?_, hb1⟩
        · exact congrArg Ending.returned (congrArg (Value.int .i64) (by omega))
        · have : 0 < val L / 2 ^ (32 * (L.length - 1)) := by
            rw [HT.out]
            exact Nat.pos_of_ne_zero HTOP.out
          have := hL.shift this
          rw [HV.out] at this; exact this
        · have := HLL.out; omega
      · have hxp : 0 < x := by omega
        have hi31 : i ≤ 31 := by
          rcases Nat.lt_or_ge i 32 with h | h
          · omega
          · exfalso
            have h1 := hat.out.eq
            have : lm L (L.length - 1) / 2 ^ i = 0 := Nat.div_eq_of_lt (Nat.lt_of_lt_of_le htb (Nat.pow_le_pow_right (n := 2) (by decide) h))
            omega
        go_wp2
        go_round
        case rel => exact ⟨i + 1, x / 2, by omega, congrArg (Value.int .i64) (by omega), congrArg (Value.int .u32) (by omega), by omega, hat.out.step hxp⟩
        case measure => simp [intOf]; omega

set_option maxRecDepth 100000 in
set_option maxHeartbeats 1000000 in
theorem rbit_any (v : Value) (xs : List Nat) (k : Nat) (w : World) (h : Nums w v xs) (_hk : k ≤ 9223372036854775807) :
    Calls Tryd.prog 14 #[v, .int .i64 k] w fun e w' => e = .returned (.bool (bitB (val xs) k)) ∧ w = w' := by
  have HB := hide (bit_val xs k h.ok)
  have HOK := hide h.ok
  obtain ⟨_, a, cap, rfl, hl, hm, hc⟩ := h
  unfold maxLen at hm
  by_cases hlt : k / 32 < xs.length
  · have hltI : (k : Int) / 32 < (xs.length : Int) := by omega
    obtain ⟨b, off, rfl, hx⟩ := hc (ne_nil hlt)
    have hxc := hx (k / 32) hlt
    have hxb := HOK.out.at (k / 32)
    unfold BB at hxb
    have hm32 : lm xs (k / 32) / 2 ^ (k % 32) < 4294967296 := Nat.lt_of_le_of_lt (Nat.div_le_self _ _) hxb
    have HAND := hide (and_one32 _ hm32)
    clear hx hc
    go_enter Tryd.func14, Tryd.ntmps14
    go_wp2
    go_ret
    refine ⟨congrArg Ending.returned (congrArg Value.bool ?_), rfl⟩
    have e : ((lm xs (k / 32) : Int) / 2 ^ (k % 32)) = ((lm xs (k / 32) / 2 ^ (k % 32) : Nat) : Int) := by rw [Int.natCast_ediv, Int.natCast_pow]; rfl
    rw [e, HAND.out]
    unfold bitB
    rw [HB.out, Bool.eq_iff_iff]
    simp only [beq_iff_eq, decide_eq_true_eq]
    omega
  · have hltI : ¬ (k : Int) / 32 < (xs.length : Int) := by omega
    have HZ := hide (lm_over xs (k / 32) (by omega))
    clear hc
    go_enter Tryd.func14, Tryd.ntmps14
    go_wp2
    go_ret
    refine ⟨congrArg Ending.returned (congrArg Value.bool ?_), rfl⟩
    unfold bitB
    rw [HB.out, HZ.out]
    simp

/-- twice a number, and one more perhaps: behind k limbs -/
structure DblAt (xs : List Nat) (one k o : Nat) (A : List Nat) : Prop where
  len : A.length = k
  ok : Ok A
  o1 : o ≤ 1
  sum : val A + BB ^ k * o = 2 * val (xs.take k) + one

theorem DblAt.zero (xs : List Nat) (one : Nat) (h : one ≤ 1) : DblAt xs one 0 one [] := ⟨rfl, Ok.nil, h, by simp [val]⟩
theorem DblAt.step {xs : List Nat} {one k o : Nat} {A : List Nat} (h : DblAt xs one k o A) (hx : lm xs k < BB) : DblAt xs one (k + 1) (lm xs k / 2147483648) (A ++ [(lm xs k * 2 + o) % BB]) := by
  have ho := h.o1
  have e1 : (lm xs k * 2 + o) % BB + BB * (lm xs k / 2147483648) = lm xs k * 2 + o := by unfold BB at *; omega
  refine ⟨by simp [h.len], h.ok.append (Ok.cons (Nat.mod_lt _ BB_pos) Ok.nil), by unfold BB at hx; omega, ?_⟩
  rw [take_succ_any, val_append, h.len, Nat.pow_succ]
  simp only [val, Nat.mul_zero, Nat.add_zero]
  have hs := h.sum
  have e2 : BB ^ k * ((lm xs k * 2 + o) % BB) + BB ^ k * BB * (lm xs k / 2147483648) = BB ^ k * (lm xs k * 2 + o) := by rw [Nat.mul_assoc, ← Nat.mul_add, e1]
  have e3 : BB ^ k * (lm xs k * 2 + o) = 2 * (BB ^ k * lm xs k) + BB ^ k * o := by grind
  rw [Nat.mul_add]
  omega

set_option maxRecDepth 100000 in
set_option maxHeartbeats 1000000 in
theorem rdouble_any (v : Value) (xs : List Nat) (one : Bool) (w : World) (h : Nums w v xs) (hlen : xs.length ≤ 100000000) :
    Calls Tryd.prog 72 #[v, .bool one] w fun e w' => ∃ (v' : Value) (L : List Nat), e = .returned v' ∧ Own w' w.heap.size v' L ∧ Ok L ∧ val L = 2 * val xs + one.toNat ∧ L.length ≤ xs.length + 1 ∧ Below w.heap.size w w' := by
  obtain ⟨i0, hi, hz0, hz1, hz2⟩ := info_parts Tryd.info32
  have HOK := hide h.ok
  obtain ⟨_, a1, c1, rfl, hl1, hm1, hc1⟩ := h
  have HC := hide hc1
  clear hc1
  unfold maxLen at hm1
  have start : ∀ o : Nat, o = one.toNat → DblAt xs one.toNat 0 o [] := fun o e => by rw [e]; exact DblAt.zero _ _ (by cases one <;> decide)
  have START := hide start
  clear start
  cases one
  all_goals
    go_enter Tryd.func72, Tryd.ntmps72
    go_wp2
    go_loopw [5, 6, 7] (fun ov cv iv wr => ∃ (k o : Nat) (A : List Nat), k ≤ xs.length ∧ iv = .int .i64 k ∧ cv = .int .u32 o ∧ DblAt xs _ k o A ∧ Own wr w.heap.size ov A ∧ Below w.heap.size w wr) (fun _ _ iv _ => xs.length - (intOf iv).toNat)
    case atStart => exact ⟨0, _, [], Nat.zero_le _, rfl, rfl, START.out _ rfl, World.ownsRow_nil _ _ _ _, Below.refl _ _⟩
    case round =>
      obtain ⟨k, o, A, hk, rfl, rfl, hat, hO, hB⟩ := hrel
      have ho := hat.o1
      have hal : A.length ≤ xs.length := by rw [hat.len]; exact hk
      have HAT := hide hat
      have HO := hide hO
      have HB := hide hB
      have hsz := hB.size
      clear hat hO hB
      by_cases hlt : k < xs.length
      · obtain ⟨b, off, rfl, hx⟩ := HC.out (ne_nil hlt)
        have hxc := (HB.out.cell (World.block_lt_of_cell? w _ (hx k hlt))).trans (hx k hlt)
        have HXC := hide (World.block_lt_of_cell? w _ (hx k hlt))
        have HX := hide (hx k hlt)
        have hxb := HOK.out.at k
        have HST := hide (HAT.out.step hxb)
        unfold BB at hxb
        clear hx
        go_wp2_with (at_builtin; refine wpList_append_own _ rfl _ _ 22 rfl w.heap.size 32 i0 (.int .u32 0) 1 4 Tryd.underlying22 hi hz0 hz1 hz2 rfl (by decide) _ _ _ rfl (World.ownsRow.alloc HO.out _) ⟨_, 0, none⟩ 1 1 [.int .u32 ((lm xs k : Int) * 2 % 4294967296 + (o : Int))] rfl rfl ?_ ?_ ?_ ?_ ?_ ?_)
        · rfl
        · unfold maxLen; omega
        · omega
        · omega
        · intro v6 w6 hown6 hgrow6 _
          obtain ⟨hO6, hB6⟩ := append_own_step (n := (lm xs k * 2 + o) % BB) (by unfold BB; omega) HO.out hown6 hgrow6 HB.out (Nat.le_refl _)
          have hxc6 := (hB6.cell HXC.out).trans HX.out
          have HO6 := hide hO6
          have HB6 := hide hB6
          clear hown6 hgrow6 hxc hO6 hB6
          go_wp2
          go_roundw
          case rel => exact ⟨k + 1, lm xs k / 2147483648, _, by omega, by go_num, congrArg (Value.int .u32) (by omega), HST.out, HO6.out, HB6.out⟩
          case measure => simp [intOf]; omega
      · have hkL : k = xs.length := by omega
        subst hkL
        have HS := hide HAT.out.sum
        by_cases hop : 0 < o
        · have HO1 : Hid (o = 1) := by show o = 1; omega
          go_wp2_with (at_builtin; refine wpList_append_own _ rfl _ _ 22 rfl w.heap.size 32 i0 (.int .u32 0) 1 4 Tryd.underlying22 hi hz0 hz1 hz2 rfl (by decide) _ _ _ rfl (World.ownsRow.alloc HO.out _) ⟨_, 0, none⟩ 1 1 [.int .u32 ((o : Int))] rfl rfl ?_ ?_ ?_ ?_ ?_ ?_)
          · intro i u hi'
            match i, hi' with
            | 0, hi' => simp at hi'; subst hi'; simp [Addr.add]
          · intro u hu; simp at hu; subst hu; rfl
          · unfold maxLen; omega
          · omega
          · simp; omega
          · intro v6 w6 hown6 hgrow6 _
            obtain ⟨hO6, hB6⟩ := append_own_step (n := o) rfl HO.out hown6 hgrow6 HB.out (Nat.le_refl _)
            have HO6 := hide hO6
            have HB6 := hide hB6
            clear hown6 hgrow6 hO6 hB6
            go_wp2
            go_ret
            refine ⟨_, A ++ [o], rfl, HO6.out, HAT.out.ok.append (Ok.cons (by unfold BB; omega) Ok.nil), ?_, by rw [List.length_append, HAT.out.len]; exact Nat.le_refl _, HB6.out⟩
            rw [val_append, HAT.out.len]
            have := HS.out
            rw [List.take_length] at this
            simpa [val] using this
        · have HO0 : Hid (o = 0) := by show o = 0; omega
          go_wp2
          go_ret
          refine ⟨_, A, rfl, HO.out, HAT.out.ok, ?_, by rw [HAT.out.len]; omega, HB.out⟩
          have := HS.out
          rw [List.take_length, HO0.out] at this
          simpa using this
end Go.Proofs.YtmibgcpafccliaaDoor
