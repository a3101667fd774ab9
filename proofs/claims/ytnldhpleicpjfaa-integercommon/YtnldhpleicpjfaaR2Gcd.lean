/- integer.Int's Gcd. -/
import Derived.Test.YtnldhpleicpjfaaR2Law
import Derived.Test.YtnldhpleicpjfaaDivMod
import Derived.Test.YtnldhpleicpjfaaSeg
import Derived.Laws.BitsAllLaws
import Derived.RegionTactic
import Derived.Test.YtnldhpleicpjfaaIDiv
import Derived.Test.YtnldhpleicpjfaaIRead
import Derived.Deep.Cut
namespace Go.Proofs.Ytnldhpleicpjfaa
open Go.RowKit

set_option maxRecDepth 100000 in
set_option maxHeartbeats 1000000 in
theorem rnorm2_cut (s : Bool) (v : Value) (xs : List Nat) (w : World) (h : Nums w v xs) (hd : D.Ok xs) :
    Calls Try.prog 47 #[.bool s, v] w fun e w' => ∃ b l k, e = .returned (.agg #[.bool b, l]) ∧ Cut v l k ∧ k ≤ xs.length ∧ xs.take k = D.lim (D.val xs) ∧ RInt w' (.agg #[.bool b, l]) (sg s (D.val xs)) ∧ Below w.heap.size w w' := by
  have hN : Hid (Nums w v xs) := h
  have HD := hide hd
  rcases h.cases with ⟨rfl, a, cap, rfl, hcap⟩ | ⟨hpos, b, off, cap, rfl, hl, hm, hb, hc⟩
  · clear h hd
    unfold maxLen at hcap
    go_enter Try.func47, Try.ntmps47
    go_wp2
    refine wp_loop_rounds 1 ?_
    rw [rounds_succ]
    cases s <;> cases a
    all_goals
      go_wp2
      refine ret_ref rfl w.heap.size _ _ _ _ rfl (heap_alloc_new _ _) rfl ?_
      exact ⟨_, _, 0, rfl, ⟨_, _, _, rfl, rfl⟩, (Nat.zero_le _), D.take_lim (k := 0) HD.out (Nat.zero_le _) rfl (.inl rfl), dtrim_end (k := 0) hN.out HD.out (Nat.zero_le _) rfl (.inl rfl) (below_alloc w _) _ (by simp), below_alloc _ _⟩
  · clear h hd
    have hc' : ∀ i, i < xs.length → (w.alloc (.cells #[.bool false, .slice none 0 0] 30)).cell? ⟨b, off + i, none⟩ = some (.int .u32 (lm xs i : Nat)) := fun i hi => by
      rw [(below_alloc w _).cell (World.block_lt_of_cell? w _ (hc i hi))]; exact hc i hi
    clear hc
    unfold maxLen at hm
    go_enter Try.func47, Try.ntmps47
    go_wp2
    go_loopw [5] (fun n wr => ∃ k : Nat, k ≤ xs.length ∧ n = .int .i64 k ∧ D.val (xs.take k) = D.val xs ∧ wr = w.alloc (.cells #[.bool false, .slice none 0 0] 30)) (fun n _ => (intOf n).toNat)
    case atStart => exact ⟨xs.length, Nat.le_refl _, rfl, by rw [List.take_length], rfl⟩
    case round =>
      obtain ⟨k, hk, rfl, hv, rfl⟩ := hrel
      have HV : Hid (D.val (xs.take k) = D.val xs) := hv
      clear hv
      cases k with
      | zero =>
        cases s with
        | true =>
          go_wp2
          refine ret_ref rfl w.heap.size _ _ _ _ rfl (heap_alloc_new _ _) rfl ?_
          exact ⟨_, _, 0, rfl, ⟨_, _, _, rfl, rfl⟩, (Nat.zero_le _), D.take_lim HD.out (Nat.zero_le _) HV.out (.inl rfl), dtrim_end hN.out HD.out (Nat.zero_le _) HV.out (.inl rfl) (below_alloc _ _) _ (by simp), below_alloc _ _⟩
        | false =>
          go_wp2
          refine ret_ref rfl w.heap.size _ _ _ _ rfl (heap_alloc_new _ _) rfl ?_
          exact ⟨_, _, 0, rfl, ⟨_, _, _, rfl, rfl⟩, (Nat.zero_le _), D.take_lim HD.out (Nat.zero_le _) HV.out (.inl rfl), dtrim_end hN.out HD.out (Nat.zero_le _) HV.out (.inl rfl) (below_alloc _ _) _ (by simp), below_alloc _ _⟩
      | succ k =>
        have hck := hc' k (by omega)
        by_cases hz : lm xs k = 0
        · have hz' : (((lm xs k : Nat) : Int) == 0) = true := by simpa using hz
          have HZ : Hid (lm xs k = 0) := hz
          clear hz
          go_wp2
          go_roundw
          case rel => exact ⟨k, by omega, by go_num, dtrim_step hk HV.out HZ.out, trivial⟩
          case measure => simp [intOf]
        · have hz' : (((lm xs k : Nat) : Int) == 0) = false := by simpa using hz
          cases s with
          | true =>
            go_wp2
            refine ret_ref rfl w.heap.size _ _ _ _ rfl (heap_alloc_new _ _) rfl ?_
            exact ⟨_, _, _, rfl, ⟨_, _, _, rfl, rfl⟩, hk, D.take_lim HD.out hk HV.out (.inr hz), dtrim_end hN.out HD.out hk HV.out (.inr hz) (below_alloc _ _) _ (by simp), below_alloc _ _⟩
          | false =>
            go_wp2
            refine ret_ref rfl w.heap.size _ _ _ _ rfl (heap_alloc_new _ _) rfl ?_
            exact ⟨_, _, _, rfl, ⟨_, _, _, rfl, rfl⟩, hk, D.take_lim HD.out hk HV.out (.inr hz), dtrim_end hN.out HD.out hk HV.out (.inr hz) (below_alloc _ _) _ (by simp), below_alloc _ _⟩

/-- what is owned stays so under norm -/
theorem Own.norm {w w' : World} {base k : Nat} {v l : Value} {xs : List Nat} (h : Own w base v xs) (hc : Cut v l k) (hk : k ≤ xs.length) (ht : xs.take k = D.lim (D.val xs)) (hb : Below w.heap.size w w') : Own w' base l (D.lim (D.val xs)) := by
  rw [← ht]; exact (h.cut k hk hc).below hb
end Go.Proofs.Ytnldhpleicpjfaa

namespace Go.Proofs.Ytnldhpleicpjfaa
open Go.RowKit

/-- a division's state with k digits to go -/
structure DDiv (xs : List Nat) (d k r : Nat) (qs : List Nat) : Prop where
  len : qs.length = xs.length - k
  ok : D.Ok qs
  r1 : r < d
  sum : D.val (xs.drop k) = d * D.val qs + r
theorem ddrop_val (xs : List Nat) (k : Nat) (h : k < xs.length) : D.val (xs.drop k) = lm xs k + 65536 * D.val (xs.drop (k + 1)) := by
  rw [List.drop_eq_getElem_cons h, lm_get _ _ h]; simp [D.val, D.BB]
theorem DDiv.start (xs : List Nat) (d : Nat) (hd : 0 < d) : DDiv xs d xs.length 0 [] := ⟨by simp, D.Ok.nil, hd, by simp [D.val]⟩
theorem dquo_lt {r x d : Nat} (hd : 0 < d) (hr : r < d) (hx : x < 65536) : (r * 65536 + x) / d < 65536 := by
  rw [Nat.div_lt_iff_lt_mul hd]
  have h1 : (r + 1) * 65536 ≤ d * 65536 := Nat.mul_le_mul_right _ hr
  omega
theorem DDiv.step {xs : List Nat} {d k r : Nat} {qs : List Nat} (h : DDiv xs d (k + 1) r qs) (hx : D.Ok xs) (hk : k < xs.length) :
    DDiv xs d k ((r * 65536 + lm xs k) % d) ((r * 65536 + lm xs k) / d :: qs) := by
  have hr := h.r1
  have hd : 0 < d := by omega
  refine ⟨by simp [h.len]; omega, D.Ok.cons (dquo_lt hd hr (dlm_lt hx k)) h.ok, Nat.mod_lt _ hd, ?_⟩
  rw [ddrop_val xs k hk, h.sum]
  simp only [D.val, D.BB]
  have e := Nat.div_add_mod (r * 65536 + lm xs k) d
  have e2 : d * ((r * 65536 + lm xs k) / d + 65536 * D.val qs) = d * ((r * 65536 + lm xs k) / d) + 65536 * (d * D.val qs) := by rw [Nat.mul_add, Nat.mul_left_comm]
  omega
theorem ddiv_end {xs : List Nat} {d r : Nat} {qs : List Nat} (h : DDiv xs d 0 r qs) : D.val qs = D.val xs / d ∧ r = D.val xs % d := by
  have hs := h.sum
  have hr := h.r1
  rw [List.drop_zero] at hs
  constructor
  · rw [hs, Nat.mul_add_div (by omega), Nat.div_eq_of_lt hr, Nat.add_zero]
  · rw [hs, Nat.mul_add_mod, Nat.mod_eq_of_lt hr]
theorem ddiv_next {w wr : World} {base g d k r cap : Nat} {xs zs qs : List Nat} {s : Int} (hat : DDiv xs d (k + 1) r qs) (hx : D.Ok xs) (hk : k < xs.length) (hz : zs.length = xs.length)
    (hrow : RowC wr base g xs.length cap (zs.take (k + 1) ++ qs)) (hbel : Below base w wr) (hs : s = ((r * 65536 + lm xs k : Nat) : Int)) :
    ∃ (k' r' : Nat) (qs' : List Nat), k' ≤ xs.length ∧ Value.int .i64 (↑k - 1) = .int .i64 ((k' : Int) - 1) ∧ Value.int .u64 (s % ↑d) = .int .u64 r' ∧ DDiv xs d k' r' qs' ∧
      RowC (wr.setCell ⟨g, k, none⟩ (.int .u32 (s / ↑d % 4294967296))) base g xs.length cap (zs.take k' ++ qs') ∧ Below base w (wr.setCell ⟨g, k, none⟩ (.int .u32 (s / ↑d % 4294967296))) := by
  have hq : (r * 65536 + lm xs k) / d < 65536 := dquo_lt (by have := hat.r1; omega) hat.r1 (dlm_lt hx k)
  have e1 : s % (d : Int) = (((r * 65536 + lm xs k) % d : Nat) : Int) := by rw [hs, Int.natCast_emod]
  have e2 : s / (d : Int) % 4294967296 = (((r * 65536 + lm xs k) / d : Nat) : Int) := by
    rw [hs, ← Int.natCast_ediv]; generalize (r * 65536 + lm xs k) / d = q at hq ⊢; omega
  refine ⟨k, _, _, by omega, rfl, by rw [e1], hat.step hx hk, ?_, hbel.setCell hrow.ge _⟩
  rw [e2]
  have := hrow.set k ((r * 65536 + lm xs k) / d)
  rw [take_set_drop zs qs k _ (by omega)] at this
  exact this
theorem RInt.digits {w : World} {v : Value} {n : Nat} (h : RInt w v (sg false n)) : ∃ l, v = .agg #[.bool false, l] ∧ Nums w l (D.lim n) := by
  obtain ⟨b, k, a, c, rfl, hn, he, h0⟩ := h
  have e : k = n := by have := congrArg Int.natAbs he; rw [sg_abs, sg_abs] at this; exact this.symm
  subst e
  cases b with
  | false => exact ⟨_, rfl, hn⟩
  | true =>
    have : k ≠ 0 := fun e => absurd (h0 e) (by decide)
    rw [sg_true, sg_false] at he
    omega
theorem dnums_lit (w : World) (x : Int) (n : Nat) (hx : x = n) (hn : n < 65536) : Nums (w.alloc (.cells #[.int .u32 x] 81)) (.slice (some ⟨w.heap.size, 0, none⟩) 1 1) [n] ∧ D.Ok [n] :=
  ⟨Own.nums (base := w.heap.size) (by subst hx; exact World.ownsRow_lit w #[.int .u32 (n : Int)] 1 (Nat.le_refl _) (by simp [maxLen]) rfl) (Ok.cons (by unfold BB; omega) Ok.nil), D.Ok.cons hn D.Ok.nil⟩
theorem Try.fieldD (W : World) (x l : Value) : Sem.run Try.prog (Instr.field 30 (.agg #[x, l]) 1) W = .ok l W := by kernel_rfl

set_option maxRecDepth 100000 in
set_option maxHeartbeats 4000000 in
theorem rdiv1_any (v1 v2 : Value) (m b : Nat) (w : World) (h1 : Nums w v1 (D.lim m)) (h2 : Nums w v2 [b]) (hb : 0 < b) (hb' : b < 65536) (l1 : (D.lim m).length ≤ 100000000) :
    Calls Try.prog 67 #[v1, v2] w fun e w' => ∃ q r, e = .returned (.tuple #[q, r]) ∧ Own w' w.heap.size q (D.lim (m / b)) ∧ Nums w' r (D.lim (m % b)) ∧ Below w.heap.size w w' := by
  obtain ⟨i0, hi, hz0, hz1, hz2⟩ := info_parts Try.info81
  have HN1 := hide h1
  have HVL := hide (D.val_lim m)
  have HOK := hide (D.ok_lim m)
  obtain ⟨_, a1, c1, rfl, hl1, hm1, hc1⟩ := h1
  obtain ⟨_, a2, c2, rfl, hl2, hm2, hc2⟩ := h2
  obtain ⟨B2, o2, rfl, hx2⟩ := hc2 (by simp)
  have HX2 : Hid (w.cell? ⟨B2, o2, none⟩ = some (.int .u32 (b : Nat))) := hide (by have := hx2 0 (by simp); simpa [lm] using this)
  have HC1 := hide hc1
  unfold maxLen at hm1 hm2
  clear hc1 hc2 hx2
  generalize D.lim m = L at *
  simp only [List.length_cons, List.length_nil, Nat.zero_add] at *
  go_enter Try.func67, Try.ntmps67
  go_wp2_with (at_make; refine wpList_make_full _ rfl _ _ 22 rfl w.heap.size 81 i0 (.int .u32 0) 1 Try.underlying22 hi hz0 hz1 _ _ _ _ L.length rfl rfl ?_ ?_ ?_ ?_ (Nat.le_refl _) ?_)
  all_goals try (first | rfl | omega)
  all_goals try (rw [hz2]; omega)
  all_goals try (unfold maxLen; omega)
  intro w2 hown hgrow
  have HB2 : Hid (Below w.heap.size w w2) := hide ((Below.refl _ _).grown hgrow (Nat.le_refl _) (fun k hk => by simp at hk))
  have HR2 : Hid (RowC w2 w.heap.size w.heap.size L.length L.length (List.replicate L.length 0)) := hide (by rw [made_fil] at hown; unfold RowC; simpa [fil] using hown)
  clear hown hgrow
  go_wp2
  go_loopw [7, 8] (fun rv iv wx => ∃ (k r : Nat) (qs : List Nat), k ≤ L.length ∧ iv = .int .i64 ((k : Int) - 1) ∧ rv = .int .u64 r ∧ DDiv L b k r qs ∧ RowC wx w.heap.size w.heap.size L.length L.length ((List.replicate L.length 0).take k ++ qs) ∧ Below w.heap.size w wx) (fun _ iv _ => (intOf iv + 1).toNat)
  case atStart => exact ⟨L.length, 0, [], Nat.le_refl _, by go_num, rfl, DDiv.start L b hb, by simpa using HR2.out, HB2.out⟩
  case round =>
    clear HR2 HB2
    obtain ⟨k, r, qs, hk, rfl, rfl, hat, hrow, hbel⟩ := hrel
    have hr := hat.r1
    cases k with
    | zero =>
      obtain ⟨hq1, hq2⟩ := ddiv_end hat
      have hlen : qs.length = L.length := by rw [hat.len]; omega
      rw [List.take_zero, List.nil_append] at hrow
      have HQ := hide (And.intro hq1 hq2)
      have HQN := hide (hrow.nums hlen (dok hat.ok))
      have HOW : Hid (Own wr w.heap.size (.slice (some ⟨w.heap.size, 0, none⟩) L.length L.length) qs) := hide (by unfold Own; rw [hlen]; exact hrow)
      have HQO := hide hat.ok
      have HBW := hide hbel
      clear hat hrow hbel hq1 hq2 hlen
      go_wp2_with fail
      refine (rnorm2_cut false _ qs _ HQN.out HQO.out).mono ?_
      rintro e w3 ⟨b3, l3, k3, rfl, hcut, hk3, ht3, hR3, hb3⟩
      have n3 := HOW.out.norm hcut hk3 ht3 hb3
      rw [HQ.out.1, HVL.out] at n3
      replace HBW := hide (HBW.out.trans (hb3.mono HBW.out.size))
      have HN3 := hide n3
      clear hR3 hb3 n3 HQN HQO HOW hcut hk3 ht3
      have hrI : ((r : Nat) : Int) < 65536 := by omega
      have hfld := Try.fieldD
      go_wp2_with fail
      have HL4 := hide (dnums_lit w3 ((r : Nat) : Int) r rfl (by omega))
      refine (rnorm2_any false _ [r] _ HL4.out.1 HL4.out.2).mono ?_
      rintro e w4 ⟨v4, rfl, hR4, hb4⟩
      rw [show D.val [r] = r by simp [D.val]] at hR4
      obtain ⟨l4, rfl, n4⟩ := hR4.digits
      have hal := below_alloc w3 (.cells #[.int .u32 ((r : Nat) : Int)] 81)
      replace HN3 := hide ((HN3.out.below hal).below hb4)
      replace HBW := hide ((HBW.out.trans (hal.mono HBW.out.size)).trans (hb4.mono (by have := HBW.out.size; rw [World.size_alloc]; omega)))
      have HN4 := hide n4
      clear hR4 hb4 n4 hal HL4
      go_wp2
      go_ret2
      exact ⟨_, _, rfl, HN3.out, by have := HN4.out; rwa [HQ.out.2, HVL.out] at this, HBW.out⟩
    | succ k =>
      obtain ⟨bA, oA, rfl, hxA⟩ := HC1.out (ne_nil (k := k) (by omega))
      have hx' : wr.cell? ⟨bA, oA + k, none⟩ = some (.int .u32 (lm L k : Nat)) := by
        have h0 := hxA k (by omega)
        rw [hbel.cell (World.block_lt_of_cell? w _ h0)]; exact h0
      have hx2 : wr.cell? ⟨B2, o2, none⟩ = some (.int .u32 (b : Nat)) := by
        have h0 := HX2.out
        rw [hbel.cell (World.block_lt_of_cell? w _ h0)]; exact h0
      have hB2 : B2 < w.heap.size := World.block_lt_of_cell? w _ HX2.out
      have hxb := dlm_lt HOK.out k
      have hfr := hrow.free k
      have hcl := hrow.cell (by rw [List.length_append, List.length_take, List.length_replicate, hat.len]; omega) k (by omega)
      have HAT := hide hat
      have HRW := hide hrow
      have HBW := hide hbel
      clear hat hrow hbel hxA
      go_wp2
      go_roundw
      case rel =>
        exact ddiv_next HAT.out HOK.out (by omega) (by simp) HRW.out HBW.out (s := (r : Int) * 65536 + (lm L k : Int)) (by omega)
      case measure => simp [intOf]
end Go.Proofs.Ytnldhpleicpjfaa

namespace Go.Proofs.Ytnldhpleicpjfaa
open Go.RowKit

/-- the bits of a digit, counted one by one -/
structure DCnt (t i x : Nat) : Prop where
  eq : x = t / 2 ^ i
  pos : 1 ≤ i → 0 < t / 2 ^ (i - 1)
theorem DCnt.step {t i x : Nat} (h : DCnt t i x) (hx : 0 < x) : DCnt t (i + 1) (x / 2) :=
  ⟨by rw [h.eq, Nat.div_div_eq_div_mul, ← Nat.pow_succ], fun _ => by rw [Nat.add_sub_cancel, ← h.eq]; exact hx⟩
theorem DCnt.end {t i : Nat} (h : DCnt t i 0) : IsLen t i := by
  have hp : 0 < 2 ^ i := Nat.two_pow_pos i
  have h1 : t < 2 ^ i := by
    have := h.eq
    rcases Nat.lt_or_ge t (2 ^ i) with h' | h'
    · exact h'
    · have := Nat.div_pos h' hp; omega
  refine ⟨h1, fun ht => ?_⟩
  rcases Nat.eq_zero_or_pos i with e | e
  · rw [e] at h1; simp at h1; omega
  · have := h.pos e
    exact ⟨e, (Nat.div_pos_iff.1 this).2⟩
theorem dbb_pow (n : Nat) : D.BB ^ n = 2 ^ (16 * n) := by rw [show D.BB = 2 ^ 16 from rfl, ← Nat.pow_mul]
theorem dtop_div {L : List Nat} {n : Nat} (ho : D.Ok L) (h : L.length = n + 1) : D.val L / 2 ^ (16 * n) = lm L n := by
  have e : D.val L = D.val (L.take n) + 65536 ^ n * lm L n := by rw [← dtake_succ, List.take_of_length_le (by omega)]
  have hl := D.val_lt (ho.take n)
  rw [List.length_take, Nat.min_eq_left (by omega), dbb_pow] at hl
  have hB : 65536 ^ n = 2 ^ (16 * n) := dbb_pow n
  rw [hB] at e
  rw [e, Nat.add_mul_div_left _ _ (Nat.two_pow_pos _), Nat.div_eq_of_lt hl, Nat.zero_add]
theorem ddrop_div (xs : List Nat) (k : Nat) (h : D.Ok xs) : D.val xs / 65536 ^ k = D.val (xs.drop k) := by
  rcases Nat.lt_or_ge k xs.length with hk | hk
  · have e := D.val_append (xs.take k) (xs.drop k)
    rw [List.take_append_drop, List.length_take, Nat.min_eq_left (by omega)] at e
    have hl := D.val_lt (h.take k)
    rw [List.length_take, Nat.min_eq_left (by omega)] at hl
    show D.val xs / D.BB ^ k = _
    rw [e, Nat.add_mul_div_left _ _ (Nat.pow_pos D.BB_pos), Nat.div_eq_of_lt hl, Nat.zero_add]
  · rw [List.drop_of_length_le hk]
    show D.val xs / D.BB ^ k = _
    rw [Nat.div_eq_of_lt (Nat.lt_of_lt_of_le (D.val_lt h) (Nat.pow_le_pow_right D.BB_pos hk))]; rfl
theorem ddrop_val' (xs : List Nat) (k : Nat) (h : k < xs.length) : D.val (xs.drop k) = lm xs k + 65536 * D.val (xs.drop (k + 1)) := by
  rw [List.drop_eq_getElem_cons h, lm_get _ _ h]; simp [D.val, D.BB]
theorem ddigit (xs : List Nat) (k : Nat) (h : D.Ok xs) : D.val xs / 65536 ^ k % 65536 = lm xs k := by
  rw [ddrop_div xs k h]
  rcases Nat.lt_or_ge k xs.length with hk | hk
  · rw [ddrop_val' xs k hk, Nat.add_mul_mod_self_left, Nat.mod_eq_of_lt (dlm_lt h k)]
  · rw [List.drop_of_length_le hk, lm_over _ _ hk]; rfl
theorem dbit_val (xs : List Nat) (k : Nat) (h : D.Ok xs) : D.val xs / 2 ^ k % 2 = lm xs (k / 16) / 2 ^ (k % 16) % 2 := by
  have e : (2 : Nat) ^ k = 65536 ^ (k / 16) * 2 ^ (k % 16) := by
    rw [show (65536 : Nat) = 2 ^ 16 from rfl, ← Nat.pow_mul, ← Nat.pow_add, Nat.div_add_mod]
  rw [e, ← Nat.div_div_eq_div_mul, ← ddigit xs (k / 16) h]
  generalize D.val xs / 65536 ^ (k / 16) = y
  have hk : k % 16 < 16 := Nat.mod_lt _ (by decide)
  generalize k % 16 = s at hk
  obtain ⟨r, hr⟩ : ∃ r, 65536 = 2 ^ s * (2 * r) := ⟨2 ^ (15 - s), by
    rw [← Nat.pow_succ', ← Nat.pow_add, show s + (15 - s + 1) = 16 from by omega]⟩
  have h2 := Nat.div_add_mod y 65536
  have h3 : y / 2 ^ s = y % 65536 / 2 ^ s + 2 * r * (y / 65536) := by
    have : y = y % 65536 + 2 ^ s * (2 * r * (y / 65536)) := by rw [← Nat.mul_assoc, ← hr]; omega
    conv => lhs; rw [this]
    rw [Nat.add_mul_div_left _ _ (Nat.two_pow_pos s)]
  rw [h3, Nat.mul_assoc]
  omega
theorem dand_one (m : Nat) (h : m < 4294967296) : bits .and .u32 (m : Int) 1 = ((m % 2 : Nat) : Int) := by
  have := u32_and_nat m 1 h (by decide)
  rw [Nat.and_one_is_mod] at this
  exact this

set_option maxRecDepth 100000 in
set_option maxHeartbeats 1000000 in
theorem rbits2_any (v : Value) (m : Nat) (w : World) (h : Nums w v (D.lim m)) (hlen : (D.lim m).length ≤ 100000000) :
    Calls Try.prog 82 #[v] w fun e w' => ∃ L : Nat, e = .returned (.int .i64 (L : Nat)) ∧ IsLen m L ∧ L ≤ 16 * (D.lim m).length ∧ w' = w := by
  obtain ⟨_, a, cap, rfl, hl1, hm1, hc1⟩ := h
  unfold maxLen at hm1
  have HC := hide hc1
  clear hc1
  by_cases hz : m = 0
  · subst hz
    rw [D.lim_zero]
    go_enter Try.func82, Try.ntmps82
    go_wp2
    go_ret
    exact ⟨0, rfl, ⟨by decide, fun h => absurd h (by decide)⟩, Nat.zero_le _, rfl⟩
  · have hp : 0 < (D.lim m).length := by rw [D.lim_pos (Nat.pos_of_ne_zero hz)]; simp
    have hlz : ((((D.lim m).length : Nat) : Int) == 0) = false := by rw [beq_eq_false_iff_ne]; omega
    have HT := hide (dtop_div (L := D.lim m) (n := (D.lim m).length - 1) (D.ok_lim m) (by omega))
    rw [D.val_lim] at HT
    have HTOP := hide (dlim_last hp)
    have HOK := hide (D.ok_lim m)
    clear hz
    generalize D.lim m = L at *
    obtain ⟨b, off, rfl, hx⟩ := HC.out (ne_nil (k := L.length - 1) (by omega))
    have hxt := hx (L.length - 1) (by omega)
    have htb := dlm_lt HOK.out (L.length - 1)
    clear hx HC
    go_enter Try.func82, Try.ntmps82
    go_wp2
    go_loop [3, 4] (fun nv xv => ∃ i x : Nat, i ≤ 16 ∧ nv = .int .i64 (16 * ((L.length - 1 : Nat) : Int) + (i : Int)) ∧ xv = .int .u32 x ∧ x ≤ 65535 ∧ Hid (DCnt (lm L (L.length - 1)) i x)) (fun _ xv => (intOf xv).toNat)
    case atStart => exact ⟨0, _, by omega, by congr 1; omega, rfl, by omega, ⟨by simp, fun h => absurd h (by omega)⟩⟩
    case round =>
      obtain ⟨i, x, hi, rfl, rfl, hx, hat⟩ := hrel
      by_cases hx0 : x = 0
      · subst hx0
        go_wp2
        go_ret
        have hL := hat.out.end
        rw [← HT.out] at hL
        refine ⟨16 * (L.length - 1) + i, ?_, ?_, ?_, rfl⟩
        · exact congrArg Ending.returned (congrArg (Value.int .i64) (by omega))
        · have : 0 < m / 2 ^ (16 * (L.length - 1)) := by
            rw [HT.out]
            exact Nat.pos_of_ne_zero HTOP.out
          exact hL.shift this
        · omega
      · have hxp : 0 < x := by omega
        have hi31 : i ≤ 15 := by
          rcases Nat.lt_or_ge i 16 with h | h
          · omega
          · exfalso
            have h1 := hat.out.eq
            have : lm L (L.length - 1) / 2 ^ i = 0 := Nat.div_eq_of_lt (Nat.lt_of_lt_of_le htb (Nat.pow_le_pow_right (n := 2) (by decide) h))
            omega
        go_wp2
        go_round
        case rel => exact ⟨i + 1, x / 2, by omega, congrArg (Value.int .i64) (by omega), congrArg (Value.int .u32) (by omega), by omega, hat.out.step hxp⟩
        case measure => simp [intOf]; omega

set_option maxRecDepth 100000 in
set_option maxHeartbeats 1000000 in
theorem rbit2_any (v : Value) (m k : Nat) (w : World) (h : Nums w v (D.lim m)) (hlt : k / 16 < (D.lim m).length) (hlen : (D.lim m).length ≤ 100000000) :
    Calls Try.prog 83 #[v, .int .i64 k] w fun e w' => e = .returned (.int .u32 ((m / 2 ^ k % 2 : Nat) : Int)) ∧ w' = w := by
  have HB := hide (dbit_val (D.lim m) k (D.ok_lim m))
  rw [D.val_lim] at HB
  have HOK := hide (D.ok_lim m)
  obtain ⟨_, a, cap, rfl, hl, hm, hc⟩ := h
  unfold maxLen at hm
  generalize D.lim m = xs at *
  have hltI : (k : Int) / 16 < (xs.length : Int) := by omega
  have hkb : k ≤ 1600000016 := by omega
  obtain ⟨b, off, rfl, hx⟩ := hc (ne_nil hlt)
  have hxc := hx (k / 16) hlt
  have hxb := dlm_lt HOK.out (k / 16)
  have hm32 : lm xs (k / 16) / 2 ^ (k % 16) < 4294967296 := Nat.lt_of_le_of_lt (Nat.div_le_self _ _) (by omega)
  have HAND := hide (dand_one _ hm32)
  clear hx hc
  go_enter Try.func83, Try.ntmps83
  go_wp2
  go_ret
  refine ⟨congrArg Ending.returned ?_, rfl⟩
  rw [HB.out]
  have e : ((lm xs (k / 16) : Int) / 2 ^ (k % 16)) = ((lm xs (k / 16) / 2 ^ (k % 16) : Nat) : Int) := by rw [Int.natCast_ediv, Int.natCast_pow]; rfl
  rw [← HAND.out, ← e]
  rfl
end Go.Proofs.Ytnldhpleicpjfaa

namespace Go.Proofs.Ytnldhpleicpjfaa
open Go.RowKit

/-- twice a number, and one more perhaps: behind i digits -/
structure DDbl (xs : List Nat) (c0 i c : Nat) (A : List Nat) : Prop where
  len : A.length = i
  ok : D.Ok A
  c1 : c ≤ 1
  sum : D.val A + 65536 ^ i * c = 2 * D.val (xs.take i) + c0
theorem DDbl.zero (xs : List Nat) (c0 : Nat) (h : c0 ≤ 1) : DDbl xs c0 0 c0 [] := ⟨rfl, D.Ok.nil, h, by simp [D.val]⟩
theorem DDbl.step {xs : List Nat} {c0 i c : Nat} {A : List Nat} (h : DDbl xs c0 i c A) (hx : D.Ok xs) : DDbl xs c0 (i + 1) ((c + 2 * lm xs i) / 65536) (A ++ [(c + 2 * lm xs i) % 65536]) := by
  have h1 := dlm_lt hx i
  have h2 := h.c1
  refine ⟨by simp [h.len], h.ok.append (D.Ok.cons (Nat.mod_lt _ (by decide)) D.Ok.nil), by omega, ?_⟩
  have hs := h.sum
  have em := Nat.mod_add_div (c + 2 * lm xs i) 65536
  rw [D.val_append, h.len, dtake_succ, Nat.pow_succ]
  simp only [D.val, Nat.mul_zero, Nat.add_zero]
  show D.val A + 65536 ^ i * ((c + 2 * lm xs i) % 65536) + 65536 ^ i * 65536 * ((c + 2 * lm xs i) / 65536) = 2 * (D.val (xs.take i) + 65536 ^ i * lm xs i) + c0
  have e : 65536 ^ i * ((c + 2 * lm xs i) % 65536) + 65536 ^ i * 65536 * ((c + 2 * lm xs i) / 65536) = 65536 ^ i * c + 2 * (65536 ^ i * lm xs i) := by
    rw [Nat.mul_assoc, ← Nat.mul_add, em, Nat.mul_add, Nat.mul_left_comm]
  omega
theorem dlim_of {A : List Nat} (h : D.Ok A) (hl : A = [] ∨ 65536 ^ (A.length - 1) ≤ D.val A) : D.lim (D.val A) = A := by
  refine D.lim_val h (fun x hx => ?_)
  rcases hl with rfl | hl
  · simp at hx
  · rintro rfl
    have hne : A ≠ [] := by rintro rfl; simp at hx
    have e := List.dropLast_concat_getLast hne
    have e2 : A.getLast hne = 0 := by rw [List.getLast?_eq_some_getLast hne] at hx; simpa using hx
    rw [e2] at e
    have h1 : D.val A = D.val A.dropLast := by
      conv => lhs; rw [← e]
      rw [D.val_append]; simp [D.val]
    have h2 : D.val A.dropLast < D.BB ^ A.dropLast.length := D.val_lt (fun y hy => h y (List.dropLast_subset A hy))
    rw [List.length_dropLast] at h2
    have h3 : D.BB ^ (A.length - 1) = 65536 ^ (A.length - 1) := rfl
    omega
theorem dlim_lo {R : Nat} (h : 0 < R) : 65536 ^ ((D.lim R).length - 1) ≤ R := by
  have hp : 0 < (D.lim R).length := by rw [D.lim_pos h]; simp
  have ht := dtop_div (L := D.lim R) (n := (D.lim R).length - 1) (D.ok_lim R) (by omega)
  rw [D.val_lim] at ht
  have hn := dlim_last hp
  rw [← ht] at hn
  have := (Nat.div_pos_iff.1 (Nat.pos_of_ne_zero hn)).2
  rw [← dbb_pow] at this
  exact this
/-- the digits of twice a number, and one more perhaps -/
theorem DDbl.end {R c0 c : Nat} {A : List Nat} (h : DDbl (D.lim R) c0 (D.lim R).length c A) : (c = 0 → A = D.lim (2 * R + c0)) ∧ (c ≠ 0 → A ++ [c] = D.lim (2 * R + c0)) := by
  have hs := h.sum
  rw [List.take_length, D.val_lim] at hs
  have hc := h.c1
  constructor
  · intro h0
    rw [h0, Nat.mul_zero, Nat.add_zero] at hs
    rw [← hs]
    refine (dlim_of h.ok ?_).symm
    rcases Nat.eq_zero_or_pos R with hR | hR
    · left
      have : A.length = 0 := by rw [h.len, hR]; rfl
      exact List.length_eq_zero_iff.1 this
    · right
      rw [h.len, hs]
      have := dlim_lo hR
      omega
  · intro h1
    have e1 : c = 1 := by omega
    subst e1
    rw [Nat.mul_one] at hs
    have e2 : D.val (A ++ [1]) = 2 * R + c0 := by
      rw [D.val_append, h.len, ← hs]; simp [D.val, D.BB]
    rw [← e2]
    refine (dlim_of (h.ok.append (D.Ok.cons (by decide) D.Ok.nil)) (.inr ?_)).symm
    rw [D.val_append, List.length_append]
    simp [D.val, D.BB]
theorem dbl_set (A xs : List Nat) (i x : Nat) (hA : A.length = i) (hi : i < xs.length) : (A ++ xs.drop i).set i x = (A ++ [x]) ++ xs.drop (i + 1) := by
  rw [List.set_append_right _ _ (by omega), hA, Nat.sub_self, List.drop_eq_getElem_cons hi, List.set_cons_zero, List.append_assoc]
  rfl
theorem dbl_at (A xs : List Nat) (i : Nat) (hA : A.length = i) : lm (A ++ xs.drop i) i = lm xs i := by
  unfold lm
  rw [List.getD_eq_getElem?_getD, List.getD_eq_getElem?_getD, List.getElem?_append_right (by omega), hA, Nat.sub_self, List.getElem?_drop, Nat.add_zero]
/-- one bit of a quotient -/
theorem bit_yes {m n k R1 : Nat} (hn : 0 < n) (hR1 : R1 = 2 * (m / 2 ^ (k + 1) % n) + m / 2 ^ k % 2) : (n ≤ R1 → m / 2 ^ k / n = 2 * (m / 2 ^ (k + 1) / n) + 1 ∧ m / 2 ^ k % n = R1 - n) ∧ (R1 < n → m / 2 ^ k / n = 2 * (m / 2 ^ (k + 1) / n) ∧ m / 2 ^ k % n = R1) := by
  have e : m / 2 ^ k = 2 * (m / 2 ^ (k + 1)) + m / 2 ^ k % 2 := by
    rw [Nat.pow_succ, ← Nat.div_div_eq_div_mul]; omega
  have hd := Nat.div_add_mod (m / 2 ^ (k + 1)) n
  have hm := Nat.mod_lt (m / 2 ^ (k + 1)) hn
  generalize m / 2 ^ (k + 1) / n = Q at *
  generalize m / 2 ^ (k + 1) % n = R at *
  generalize m / 2 ^ (k + 1) = Y at *
  have hb : m / 2 ^ k % 2 ≤ 1 := by omega
  have e2 : m / 2 ^ k = n * (2 * Q) + R1 := by
    rw [Nat.mul_left_comm]; omega
  generalize m / 2 ^ k = X at *
  constructor
  · intro h
    have e3 : X = n * (2 * Q + 1) + (R1 - n) := by rw [Nat.mul_add, Nat.mul_one]; omega
    have hlt : R1 - n < n := by omega
    rw [e3, Nat.mul_add_div hn, Nat.div_eq_of_lt hlt, Nat.mul_add_mod, Nat.mod_eq_of_lt hlt]
    exact ⟨rfl, rfl⟩
  · intro h
    rw [e2, Nat.mul_add_div hn, Nat.div_eq_of_lt h, Nat.mul_add_mod, Nat.mod_eq_of_lt h]
    exact ⟨rfl, rfl⟩
/-- a bit that is laid into a digit -/
theorem or_bit {qs : List Nat} {k V : Nat} (hq : D.Ok qs) (hv : D.val qs = V * 2 ^ (k + 1)) (hk : k / 16 < qs.length) :
    lm qs (k / 16) ||| 2 ^ (k % 16) < 65536 ∧ D.val (qs.set (k / 16) (lm qs (k / 16) ||| 2 ^ (k % 16))) = (2 * V + 1) * 2 ^ k := by
  have hs : k % 16 < 16 := Nat.mod_lt _ (by decide)
  have hd := ddigit qs (k / 16) hq
  have ek : k = 16 * (k / 16) + k % 16 := (Nat.div_add_mod k 16).symm
  have eB : (65536 : Nat) ^ (k / 16) = 2 ^ (16 * (k / 16)) := by rw [show (65536 : Nat) = 2 ^ 16 from rfl, ← Nat.pow_mul]
  have hlm : lm qs (k / 16) = V * 2 ^ (k % 16 + 1) % 65536 := by
    rw [← hd, hv, eB]
    congr 1
    rw [show k + 1 = 16 * (k / 16) + (k % 16 + 1) by omega, Nat.pow_add, Nat.mul_left_comm, Nat.mul_div_cancel_left _ (Nat.two_pow_pos _)]
  obtain ⟨u, hu⟩ : ∃ u, lm qs (k / 16) = 2 ^ (k % 16 + 1) * u := by
    refine ⟨V % 2 ^ (15 - k % 16), ?_⟩
    rw [hlm, Nat.mul_comm V, show (65536 : Nat) = 2 ^ (k % 16 + 1) * 2 ^ (15 - k % 16) by rw [← Nat.pow_add, show k % 16 + 1 + (15 - k % 16) = 16 by omega], Nat.mul_mod_mul_left]
  have hor : lm qs (k / 16) ||| 2 ^ (k % 16) = lm qs (k / 16) + 2 ^ (k % 16) := by
    rw [hu]
    exact (Nat.two_pow_add_eq_or_of_lt (Nat.pow_lt_pow_right (by decide) (Nat.lt_succ_self _)) u).symm
  constructor
  · have h1 := dlm_lt hq (k / 16)
    have h2 : 2 ^ (k % 16) < 2 ^ 16 := Nat.pow_lt_pow_right (by decide) hs
    exact Nat.or_lt_two_pow (n := 16) h1 h2
  · have e := dset_val qs (k / 16) (lm qs (k / 16) ||| 2 ^ (k % 16)) hk
    rw [hor, Nat.mul_add] at e
    have e2 : 65536 ^ (k / 16) * 2 ^ (k % 16) = 2 ^ k := by rw [eB, ← Nat.pow_add, Nat.div_add_mod]
    rw [e2, hv] at e
    rw [hor, Nat.add_mul, Nat.one_mul]
    rw [Nat.pow_succ, Nat.mul_comm (2 ^ k) 2, ← Nat.mul_assoc, Nat.mul_comm V 2] at e
    omega
theorem RowC.kept {w w' : World} {base g n cap : Nat} {row : Option Nat} {xs : List Nat} (h : RowC w base g n cap xs) (hg : w.grownBy w' row) (hne : row ≠ some g) : RowC w' base g n cap xs :=
  World.ownsRow.kept h hg (.inr (fun e => hne (by rw [← e]; rfl)))
theorem RowC.elder {w w' : World} {base g n cap : Nat} {xs : List Nat} (h : RowC w base g n cap xs) (hb : Below w.heap.size w w') : RowC w' base g n cap xs := by
  refine ⟨h.1, ?_⟩
  rcases h.2 with ⟨e, _⟩ | ⟨g', cap', cur, e, hg, hh, r⟩
  · simp at e
  · refine .inr ⟨g', cap', cur, e, hg, ?_, r⟩
    rw [hb.block g' (Array.getElem?_eq_some_iff.1 hh).1]; exact hh
theorem RowC.other {w : World} {base g n cap g' o : Nat} {xs : List Nat} {v : Value} (h : RowC w base g n cap xs) (hne : g' ≠ g) : RowC (w.setCell ⟨g', o, none⟩ v) base g n cap xs :=
  RowC.kept (row := some g') h ⟨rfl, rfl, rfl, by simp, fun k _ hk => by
    show (w.heap.modify g' _)[k]? = _
    rw [Array.getElem?_modify]
    have : g' ≠ k := fun e => hk (by rw [e])
    simp [this]⟩ (by simp [hne])
end Go.Proofs.Ytnldhpleicpjfaa

namespace Go.Proofs.Ytnldhpleicpjfaa
open Go.RowKit

theorem dcmp_ge {m n : Nat} (h : n ≤ m) : 0 ≤ cmpI m n := by unfold cmpI; rw [if_neg (by omega)]; split <;> omega
theorem dcmp_lt {m n : Nat} (h : ¬ n ≤ m) : cmpI m n < 0 := by unfold cmpI; rw [if_pos (by omega)]; omega
theorem dlen_mono {n m : Nat} (h : n ≤ m) : (D.lim n).length ≤ (D.lim m).length :=
  D.lim_length_le (Nat.lt_of_le_of_lt h (by have := D.val_lt (D.ok_lim m); rw [D.val_lim] at this; exact this))
theorem dlen_mono' {n m M : Nat} (h : n < m) (hM : M = (D.lim m).length) : (D.lim n).length ≤ M := by rw [hM]; exact dlen_mono (Nat.le_of_lt h)
theorem Own.lower3 {w : World} {base base' : Nat} {v : Value} {xs : List Nat} (h : Own w base v xs) (hb : base' ≤ base) : Own w base' v xs := by
  refine ⟨h.1, ?_⟩
  rcases h.2 with k | ⟨g, cap, cur, e, hg, r⟩
  · exact .inl k
  · exact .inr ⟨g, cap, cur, e, Nat.le_trans hb hg, r⟩
theorem Own.lt2 {w : World} {base : Nat} {v : Value} {xs : List Nat} (h : Own w base v xs) : ∀ k, v.ownBlock = some k → base ≤ k ∧ k < w.heap.size := World.ownsRow.lt h
theorem Own.rowc {w : World} {base l rc : Nat} {ra : Option Addr} {xs : List Nat} (h : Own w base (.slice ra l rc) xs) (hp : 0 < xs.length) : ∃ g, ra = some ⟨g, 0, none⟩ ∧ base ≤ g ∧ RowC w base g xs.length rc xs := by
  rcases h.2 with ⟨e, h0⟩ | ⟨g, cap, cur, e, hb, r⟩
  · omega
  · simp only [Value.slice.injEq] at e
    obtain ⟨rfl, rfl, rfl⟩ := e
    exact ⟨g, rfl, hb, h⟩
theorem Own.other {w : World} {base g o : Nat} {v u : Value} {xs : List Nat} (h : Own w base v xs) (hg : g < base) : Own (w.setCell ⟨g, o, none⟩ u) base v xs :=
  World.ownsRow.kept (row := some g) h ⟨rfl, rfl, rfl, by simp, fun k _ hk => by
    show (w.heap.modify g _)[k]? = _
    rw [Array.getElem?_modify]
    have : g ≠ k := fun e => hk (by rw [e])
    simp [this]⟩ (.inr (fun e => by have := (Own.lt2 h g e).1; omega))
theorem twice_pow (Q k : Nat) : Q * 2 ^ (k + 1) = 2 * Q * 2 ^ k := by rw [Nat.pow_succ, Nat.mul_comm (2 ^ k), ← Nat.mul_assoc, Nat.mul_comm Q]
theorem pow_emod (s : Nat) (h : s < 16) : ((2 ^ s : Nat) : Int) = (2 : Int) ^ s % 4294967296 := by
  have h1 : 2 ^ s < 2 ^ 16 := Nat.pow_lt_pow_right (by decide) h
  have h2 : ((2 ^ s : Nat) : Int) = (2 : Int) ^ s := by rw [Int.natCast_pow]; rfl
  rw [← h2]
  generalize 2 ^ s = p at h1
  omega
theorem RowC.lt2 {w : World} {base g n cap : Nat} {xs : List Nat} (h : RowC w base g n cap xs) : g < w.heap.size := (World.ownsRow.lt h g rfl).2

set_option maxRecDepth 100000 in
set_option maxHeartbeats 8000000 in
theorem rdiv2_any (v1 v2 : Value) (m n : Nat) (w : World) (h1 : Nums w v1 (D.lim m)) (h2 : Nums w v2 (D.lim n)) (hn : 0 < n) (hn1 : (D.lim n).length ≠ 1) (l1 : (D.lim m).length ≤ 10000000) (l2 : (D.lim n).length ≤ 10000000) :
    Calls Try.prog 67 #[v1, v2] w fun e w' => ∃ q r, e = .returned (.tuple #[q, r]) ∧ Nums w' q (D.lim (m / n)) ∧ Nums w' r (D.lim (m % n)) ∧ Below w.heap.size w w' := by
  obtain ⟨i0, hi, hz0, hz1, hz2⟩ := info_parts Try.info81
  have HN1 := hide h1
  have HN2 := hide h2
  have HNP := hide hn
  obtain ⟨_, a1, c1, rfl, hl1, hm1, _⟩ := h1
  obtain ⟨_, a2, c2, rfl, hl2, hm2, _⟩ := h2
  unfold maxLen at hm1 hm2
  have hne1 : ((((D.lim n).length : Nat) : Int) == 1) = false := by rw [beq_eq_false_iff_ne]; omega
  obtain ⟨L, hL⟩ : ∃ L, L = (D.lim m).length := ⟨_, rfl⟩
  obtain ⟨M, hM⟩ : ∃ M, M = (D.lim n).length := ⟨_, rfl⟩
  rw [← hL] at hl1 l1 HN1 ⊢
  rw [← hM] at hl2 l2 hne1 HN2 ⊢
  have HLE := hide hL
  have HME := hide hM
  clear hL hM hn hn1
  go_enter Try.func67, Try.ntmps67
  go_wp2_with (at_make; refine wpList_make_full _ rfl _ _ 22 rfl w.heap.size 81 i0 (.int .u32 0) 1 Try.underlying22 hi hz0 hz1 _ _ _ _ L rfl rfl ?_ ?_ ?_ ?_ (Nat.le_refl _) ?_)
  all_goals try (first | rfl | omega)
  all_goals try (rw [hz2]; omega)
  all_goals try (unfold maxLen; omega)
  intro w2 hown hgrow
  have HB2 : Hid (Below w.heap.size w w2) := hide ((Below.refl _ _).grown hgrow (Nat.le_refl _) (fun k hk => by simp at hk))
  have HR2 : Hid (RowC w2 w.heap.size w.heap.size L L (List.replicate L 0)) := hide (by rw [made_fil] at hown; unfold RowC; simpa [fil] using hown)
  clear hown hgrow hne1
  go_wp2_with fail
  refine (rbits2_any _ m _ (HN1.out.below HB2.out) (by have := HLE.out; omega)).mono ?_
  rintro e w3 ⟨N, rfl, hlen, hNb, rfl⟩
  rw [← HLE.out] at hNb
  have HLEN := hide hlen
  clear hlen
  go_wp2
  go_loopw [10, 11, 12, 13] (fun rv kv cv iv wr => ∃ (k : Nat) (qs : List Nat), k ≤ N ∧ kv = .int .i64 ((k : Int) - 1) ∧ qs.length = L ∧ D.Ok qs ∧ D.val qs = m / 2 ^ k / n * 2 ^ k ∧ RowC wr w.heap.size w.heap.size L L qs ∧ Own wr (w.heap.size + 1) rv (D.lim (m / 2 ^ k % n)) ∧ Below w.heap.size w wr) (fun _ kv _ _ _ => (intOf kv + 1).toNat)
  case atStart =>
    have e0 : m / 2 ^ N = 0 := Nat.div_eq_of_lt HLEN.out.1
    exact ⟨N, List.replicate L 0, Nat.le_refl _, rfl, List.length_replicate, fun x hx => by rw [List.eq_of_mem_replicate hx]; decide, by rw [e0, Nat.zero_div, Nat.zero_mul]; exact D.val_replicate _, HR2.out, by rw [e0, Nat.zero_mod, D.lim_zero]; exact World.ownsRow_nil _ _ _ _, HB2.out⟩
  case round =>
    clear HR2 HB2
    obtain ⟨k, qs, hkN, rfl, hql, hqo, hqv, hrow, hown, hbel⟩ := hrel
    have HQ := hide (And.intro hql (And.intro hqo hqv))
    have HRW := hide hrow
    have HOW := hide hown
    have HBE := hide hbel
    clear hql hqo hqv hrow hown hbel
    cases k with
    | zero =>
      have hfld := Try.fieldD
      go_wp2_with fail
      refine (rnorm2_any false _ qs _ (HRW.out.nums HQ.out.1 (dok HQ.out.2.1)) HQ.out.2.1).mono ?_
      rintro e w4 ⟨v4, rfl, hR4, hb4⟩
      rw [HQ.out.2.2, show m / 2 ^ 0 / n * 2 ^ 0 = m / n by simp] at hR4
      obtain ⟨l4, rfl, n4⟩ := hR4.digits
      have HN4 := hide n4
      have HR4 : Hid (Nums w4 u10 (D.lim (m % n))) := hide (by have := (HOW.out.nums (dok (D.ok_lim _))).below hb4; rwa [show m / 2 ^ 0 % n = m % n by simp] at this)
      replace HBE := hide (HBE.out.trans (hb4.mono HBE.out.size))
      clear hb4 hR4 n4
      go_wp2
      go_ret2
      exact ⟨_, _, rfl, HN4.out, HR4.out, HBE.out⟩
    | succ k =>
      rw [show (((k + 1 : Nat) : Int) - 1) = (k : Int) from by omega]
      have hkL : k / 16 < L := by omega
      have HYN := hide (bit_yes (m := m) (k := k) HNP.out rfl)
      obtain ⟨c0, hc0⟩ : ∃ c0, c0 = m / 2 ^ k % 2 := ⟨_, rfl⟩
      have hc01 : c0 ≤ 1 := by omega
      obtain ⟨R, hR⟩ : ∃ R, R = m / 2 ^ (k + 1) % n := ⟨_, rfl⟩
      rw [← hc0, ← hR] at HYN
      rw [← hR] at HOW
      have HRn : Hid (R < n) := hide (by rw [hR]; exact Nat.mod_lt _ HNP.out)
      have HC0 := hide hc0
      clear hc0 hR
      obtain ⟨R1, hR1⟩ : ∃ R1, R1 = 2 * R + c0 := ⟨_, rfl⟩
      rw [← hR1] at HYN
      have HR1 := hide hR1
      have HRL : Hid ((D.lim R1).length ≤ M + 1) := hide (by
        refine D.lim_length_le ?_
        have h1 : n < D.BB ^ M := by have := D.val_lt (D.ok_lim n); rw [D.val_lim, ← HME.out] at this; exact this
        rw [Nat.pow_succ]
        have h2 : D.BB ^ M * 2 ≤ D.BB ^ M * D.BB := Nat.mul_le_mul_left _ (by decide)
        have := HRn.out
        omega)
      clear hR1
      obtain ⟨_, ra, rc, hrv, hrc, hrm, _⟩ := HOW.out.nums (dok (D.ok_lim _))
      subst hrv
      unfold maxLen at hrm
      have HRL0 : Hid ((D.lim R).length ≤ M) := hide (dlen_mono' HRn.out HME.out)
      have hRb : (D.lim R).length ≤ 10000000 := by have := HRL0.out; omega
      go_wp2_with fail
      refine (rbit2_any _ m k _ (HN1.out.below HBE.out) (by rw [← HLE.out]; exact hkL) (by rw [← HLE.out]; omega)).mono ?_
      rintro e w5 ⟨rfl, hw5⟩
      rw [← HC0.out]
      subst hw5
      obtain ⟨RL, hRL⟩ : ∃ RL, RL = D.lim R := ⟨_, rfl⟩
      have HRLE := hide hRL
      rw [← hRL] at HOW hrc hRb ⊢
      clear hRL
      have HROK : Hid (D.Ok RL) := hide (by rw [HRLE.out]; exact D.ok_lim _)
      go_wp2
      go_loopw [12, 13] (fun cv iv wx => ∃ (i c : Nat) (A : List Nat), i ≤ RL.length ∧ iv = .int .i64 i ∧ cv = .int .u32 c ∧ c ≤ 1 ∧ DDbl RL c0 i c A ∧ Own wx (w.heap.size + 1) (.slice ra RL.length rc) (A ++ RL.drop i) ∧ RowC wx w.heap.size w.heap.size L L qs ∧ Below w.heap.size w wx) (fun _ iv _ => RL.length - (intOf iv).toNat)
      case atStart => exact ⟨0, c0, [], Nat.zero_le _, rfl, rfl, hc01, DDbl.zero _ _ hc01, by simpa using HOW.out, HRW.out, HBE.out⟩
      case round =>
        clear HOW HRW HBE
        obtain ⟨i, c, A, hiR, rfl, rfl, hc1, hat, hown, hrow, hbel⟩ := hrel
        have HAT := hide hat
        have HOW := hide hown
        have HRW := hide hrow
        have HBE := hide hbel
        have HAL := hide hat.len
        clear hat hown hrow hbel
        by_cases hlt : i < RL.length
        · obtain ⟨g, rfl, hbg, hrr⟩ := Own.rowc HOW.out (by rw [List.length_append, List.length_drop, HAL.out]; omega)
          have hall : (A ++ RL.drop i).length = RL.length := by rw [List.length_append, List.length_drop, HAL.out]; omega
          rw [hall] at hrr
          have hcl := hrr.cell hall i hlt
          rw [dbl_at A RL i HAL.out] at hcl
          have hfr := hrr.free i
          have hdx := dlm_lt HROK.out i
          have HRR := hide hrr
          have HBG := hide hbg
          clear hrr hbg hall
          have hcI : (c : Int) ≤ 1 := by omega
          go_wp2
          go_roundw
          case rel =>
            have hs := HRR.out.set i ((c + 2 * lm RL i) % 65536)
            rw [dbl_set A RL i _ HAL.out hlt] at hs
            have e1 : (((c + 2 * lm RL i) % 65536 : Nat) : Int) = ((c : Int) + 2 * (lm RL i : Int)) % 65536 := by omega
            have e2 : (((c + 2 * lm RL i) / 65536 : Nat) : Int) = ((c : Int) + 2 * (lm RL i : Int)) / 65536 := by omega
            rw [e1] at hs
            have st := HAT.out.step HROK.out
            refine ⟨i + 1, (c + 2 * lm RL i) / 65536, _, by omega, by go_num, by rw [e2], st.c1, st, ?_, HRW.out.other (by have := HBG.out; omega), HBE.out.setCell (p := ⟨g, i, none⟩) (by have := HBG.out; show _ ≤ g; omega) _⟩
            unfold Own
            rw [show (A ++ [(c + 2 * lm RL i) % 65536] ++ RL.drop (i + 1)).length = RL.length by simp [HAL.out]; omega]
            exact hs
          case measure => simp [intOf]; omega
        · have e : i = RL.length := by omega
          subst e
          have HEND := hide (DDbl.end (by have := HAT.out; rw [HRLE.out] at this; exact this))
          rw [← HR1.out] at HEND
          have HOA : Hid (Own wr (w.heap.size + 1) (.slice ra RL.length rc) A) := hide (by have := HOW.out; rw [List.drop_length, List.append_nil] at this; exact this)
          have HRW7 : Hid (w.heap.size < wr.heap.size) := hide HRW.out.lt2
          clear HAT HOW
          by_cases hc0' : c = 0
          · subst hc0'
            have HO1 : Hid (Own wr (w.heap.size + 1) (.slice ra RL.length rc) (D.lim R1)) := hide (by rw [← HEND.out.1 rfl]; exact HOA.out)
            clear HOA HEND
            go_wp2_with fail
            refine (rsize_any _ _ R1 n _ (HO1.out.nums (dok (D.ok_lim _))) (HN2.out.below HBE.out)).mono ?_
            rintro e w7 ⟨rfl, hb7⟩
            replace HO1 := hide (HO1.out.below hb7)
            replace HRW := hide (HRW.out.elder hb7)
            replace HBE := hide (HBE.out.trans (hb7.mono HBE.out.size))
            clear hb7 HRW7
            have HRW7 := hide HRW.out.lt2
            by_cases hge : n ≤ R1
            · have hcm : 0 ≤ cmpI R1 n := dcmp_ge hge
              generalize cmpI R1 n = cz at *
              have HGE := hide hge
              clear hge
              go_wp2_with fail
              refine (rminus_own _ _ (D.lim R1) (D.lim n) _ (HO1.out.nums (dok (D.ok_lim _))) (HN2.out.below HBE.out) (D.ok_lim _) (D.ok_lim _) (by have := HRL.out; omega) (dlen_mono HGE.out) (by rw [D.val_lim, D.val_lim]; exact HGE.out)).mono ?_
              rintro e w8 ⟨v8, acc, rfl, hO8, hk8, hv8, hb8⟩
              rw [D.val_lim, D.val_lim] at hv8
              replace HRW := hide (HRW.out.elder hb8)
              have HO8 := hide hO8
              skip
              replace HBE := hide (HBE.out.trans (hb8.mono HBE.out.size))
              have HV8 := hide hv8
              have HK8 := hide hk8
              clear hO8 hb8 hv8 hk8 HO1
              have hfld := Try.fieldD
              go_wp2_with fail
              refine (rnorm2_cut false v8 acc _ (HO8.out.nums (dok HK8.out)) HK8.out).mono ?_
              rintro e w9 ⟨b9, l9, k9, rfl, hcut, hk9, ht9, hR9, hb9⟩
              have HO9 : Hid (Own w9 (w.heap.size + 1) l9 (D.lim (R1 - n))) := hide (by have h := HO8.out.norm hcut hk9 ht9 hb9; rw [HV8.out] at h; exact Own.lower3 h (by have := HRW7.out; omega))
              replace HRW := hide (HRW.out.elder hb9)
              replace HBE := hide (HBE.out.trans (hb9.mono HBE.out.size))
              clear hcut hk9 ht9 hR9 hb9 HO8 HV8 HK8
              have hcl := HRW.out.cell HQ.out.1 (k / 16) (by omega)
              have hfr := HRW.out.free (k / 16)
              have hdq := dlm_lt HQ.out.2.1 (k / 16)
              have HOR := hide (or_bit HQ.out.2.1 HQ.out.2.2 (by rw [HQ.out.1]; omega))
              have HORI := hide (u32_or_nat (lm qs (k / 16)) (2 ^ (k % 16)) (by omega) (Nat.lt_of_lt_of_le (Nat.pow_lt_pow_right (by decide) (Nat.mod_lt _ (by decide))) (show 2 ^ 16 ≤ 4294967296 by decide)))
              rw [pow_emod (k % 16) (Nat.mod_lt _ (by decide))] at HORI
              have hk16 : (k : Int) / 16 < (L : Int) := by omega
              go_wp2
              go_region
              all_goals
                go_wp2
                go_roundw
                case rel =>
                  have hy := (HYN.out.1 HGE.out)
                  refine ⟨k, qs.set (k / 16) (lm qs (k / 16) ||| 2 ^ (k % 16)), by omega, by go_num, by rw [List.length_set]; exact HQ.out.1, HQ.out.2.1.set _ _ HOR.out.1, by rw [HOR.out.2, hy.1], ?_, by rw [hy.2]; exact Own.other HO9.out (Nat.lt_succ_self _), ?_⟩
                  · have h1 := HRW.out.set (k / 16) (lm qs (k / 16) ||| 2 ^ (k % 16))
                    rw [← HORI.out] at h1
                    exact h1
                  · exact (HBE.out.setCell (p := ⟨w.heap.size, k / 16, none⟩) (Nat.le_refl _) _).drew
                case measure => simp [intOf]
            · have hcm : cmpI R1 n < 0 := dcmp_lt hge
              have HLT := hide (Nat.lt_of_not_le hge)
              generalize cmpI R1 n = cz at *
              clear hge
              go_wp2
              go_roundw
              case rel =>
                have hy := (HYN.out.2 HLT.out)
                exact ⟨k, qs, by omega, by go_num, HQ.out.1, HQ.out.2.1, by rw [HQ.out.2.2, hy.1, twice_pow], HRW.out, by rw [hy.2]; exact HO1.out, HBE.out⟩
              case measure => simp [intOf]
          · have hc1' : c = 1 := by omega
            subst hc1'
            have hAl : A.length = RL.length := HAL.out
            have hbs : w.heap.size + 1 ≤ wr.heap.size := HRW7.out
            go_wp2_with (at_builtin; refine wpList_append_own _ rfl _ _ 22 rfl (w.heap.size + 1) 81 i0 (.int .u32 0) 1 4 Try.underlying22 hi hz0 hz1 hz2 rfl (by decide) _ _ _ rfl (World.ownsRow.alloc HOA.out _) ⟨_, 0, none⟩ 1 1 [.int .u32 (1)] rfl rfl ?_ ?_ ?_ ?_ ?_ ?_)
            · intro i u hi'
              match i, hi' with
              | 0, hi' => simp at hi'; subst hi'; simp [Addr.add]
            · intro u hu; simp at hu; subst hu; rfl
            · unfold maxLen; omega
            · omega
            · simp; omega
            · intro v6 w6 hown6 hgrow6 _
              have hneT : (Value.slice ra RL.length rc).ownBlock ≠ some w.heap.size := fun h => by have := HOA.out.lt _ h; omega
              have HRW6 := hide (RowC.kept (show RowC (wr.alloc _) _ _ _ _ _ from World.ownsRow.alloc HRW.out _) hgrow6 hneT)
              obtain ⟨hO6, hB6⟩ := own_step (n := 1) rfl HOA.out (by rw [hAl]; simpa using hown6) hgrow6 HBE.out (by omega) (Nat.le_succ _)
              have HO1 : Hid (Own w6 (w.heap.size + 1) v6 (D.lim R1)) := hide (by rw [← HEND.out.2 (by decide)]; exact hO6)
              have HS6 : Hid (w.heap.size < w6.heap.size) := hide HRW6.out.lt2
              clear HRW HRW7
              have HRW := hide HRW6.out
              have HRW7 := hide HS6.out
              replace HBE := hide hB6
              clear hown6 hgrow6 hO6 hB6 HOA HEND HRW6 HS6 hneT hbs hAl
              obtain ⟨_, r6, q6, hv6, _, hm6, _⟩ := HO1.out.nums (dok (D.ok_lim _))
              subst hv6
              clear hm6
              go_wp2_with fail
              refine (rsize_any _ _ R1 n _ (HO1.out.nums (dok (D.ok_lim _))) (HN2.out.below HBE.out)).mono ?_
              rintro e w7 ⟨rfl, hb7⟩
              replace HO1 := hide (HO1.out.below hb7)
              replace HRW := hide (HRW.out.elder hb7)
              replace HBE := hide (HBE.out.trans (hb7.mono HBE.out.size))
              clear hb7 HRW7
              have HRW7 := hide HRW.out.lt2
              by_cases hge : n ≤ R1
              · have hcm : 0 ≤ cmpI R1 n := dcmp_ge hge
                generalize cmpI R1 n = cz at *
                have HGE := hide hge
                clear hge
                go_wp2_with fail
                refine (rminus_own _ _ (D.lim R1) (D.lim n) _ (HO1.out.nums (dok (D.ok_lim _))) (HN2.out.below HBE.out) (D.ok_lim _) (D.ok_lim _) (by have := HRL.out; omega) (dlen_mono HGE.out) (by rw [D.val_lim, D.val_lim]; exact HGE.out)).mono ?_
                rintro e w8 ⟨v8, acc, rfl, hO8, hk8, hv8, hb8⟩
                rw [D.val_lim, D.val_lim] at hv8
                replace HRW := hide (HRW.out.elder hb8)
                have HO8 := hide hO8
                skip
                replace HBE := hide (HBE.out.trans (hb8.mono HBE.out.size))
                have HV8 := hide hv8
                have HK8 := hide hk8
                clear hO8 hb8 hv8 hk8 HO1
                have hfld := Try.fieldD
                go_wp2_with fail
                refine (rnorm2_cut false v8 acc _ (HO8.out.nums (dok HK8.out)) HK8.out).mono ?_
                rintro e w9 ⟨b9, l9, k9, rfl, hcut, hk9, ht9, hR9, hb9⟩
                have HO9 : Hid (Own w9 (w.heap.size + 1) l9 (D.lim (R1 - n))) := hide (by have h := HO8.out.norm hcut hk9 ht9 hb9; rw [HV8.out] at h; exact Own.lower3 h (by have := HRW7.out; omega))
                replace HRW := hide (HRW.out.elder hb9)
                replace HBE := hide (HBE.out.trans (hb9.mono HBE.out.size))
                clear hcut hk9 ht9 hR9 hb9 HO8 HV8 HK8
                have hcl := HRW.out.cell HQ.out.1 (k / 16) (by omega)
                have hfr := HRW.out.free (k / 16)
                have hdq := dlm_lt HQ.out.2.1 (k / 16)
                have HOR := hide (or_bit HQ.out.2.1 HQ.out.2.2 (by rw [HQ.out.1]; omega))
                have HORI := hide (u32_or_nat (lm qs (k / 16)) (2 ^ (k % 16)) (by omega) (Nat.lt_of_lt_of_le (Nat.pow_lt_pow_right (by decide) (Nat.mod_lt _ (by decide))) (show 2 ^ 16 ≤ 4294967296 by decide)))
                rw [pow_emod (k % 16) (Nat.mod_lt _ (by decide))] at HORI
                have hk16 : (k : Int) / 16 < (L : Int) := by omega
                go_wp2
                go_region
                all_goals
                  go_wp2
                  go_roundw
                  case rel =>
                    have hy := (HYN.out.1 HGE.out)
                    refine ⟨k, qs.set (k / 16) (lm qs (k / 16) ||| 2 ^ (k % 16)), by omega, by go_num, by rw [List.length_set]; exact HQ.out.1, HQ.out.2.1.set _ _ HOR.out.1, by rw [HOR.out.2, hy.1], ?_, by rw [hy.2]; exact Own.other HO9.out (Nat.lt_succ_self _), ?_⟩
                    · have h1 := HRW.out.set (k / 16) (lm qs (k / 16) ||| 2 ^ (k % 16))
                      rw [← HORI.out] at h1
                      exact h1
                    · exact (HBE.out.setCell (p := ⟨w.heap.size, k / 16, none⟩) (Nat.le_refl _) _).drew
                  case measure => simp [intOf]
              · have hcm : cmpI R1 n < 0 := dcmp_lt hge
                have HLT := hide (Nat.lt_of_not_le hge)
                generalize cmpI R1 n = cz at *
                clear hge
                go_wp2
                go_roundw
                case rel =>
                  have hy := (HYN.out.2 HLT.out)
                  exact ⟨k, qs, by omega, by go_num, HQ.out.1, HQ.out.2.1, by rw [HQ.out.2.2, hy.1, twice_pow], HRW.out, by rw [hy.2]; exact HO1.out, HBE.out⟩
                case measure => simp [intOf]

theorem dlim_one {n : Nat} (h : (D.lim n).length = 1) : D.lim n = [n] ∧ n < 65536 ∧ 0 < n := by
  obtain ⟨x, hx⟩ := List.length_eq_one_iff.1 h
  have hv := D.val_lim n
  rw [hx] at hv
  have hv' : x = n := by simpa [D.val] using hv
  subst hv'
  have hk := D.ok_lim x
  rw [hx] at hk
  have hl := dlim_last (n := x) (by omega)
  rw [h, hx] at hl
  exact ⟨hx, hk x (by simp), Nat.pos_of_ne_zero (by simpa [lm] using hl)⟩
theorem rdivide_any (v1 v2 : Value) (m n : Nat) (w : World) (h1 : Nums w v1 (D.lim m)) (h2 : Nums w v2 (D.lim n)) (hn : 0 < n) (l1 : (D.lim m).length ≤ 10000000) (l2 : (D.lim n).length ≤ 10000000) :
    Calls Try.prog 67 #[v1, v2] w fun e w' => ∃ q r, e = .returned (.tuple #[q, r]) ∧ Nums w' q (D.lim (m / n)) ∧ Nums w' r (D.lim (m % n)) ∧ Below w.heap.size w w' := by
  by_cases h : (D.lim n).length = 1
  · obtain ⟨e, hlt, hp⟩ := dlim_one h
    rw [e] at h2
    exact (rdiv1_any v1 v2 m n w h1 h2 hp hlt (by omega)).mono fun _ _ ⟨q, r, he, hq, hr, hb⟩ => ⟨q, r, he, hq.nums (dok (D.ok_lim _)), hr, hb⟩
  · exact rdiv2_any v1 v2 m n w h1 h2 hn h l1 l2
end Go.Proofs.Ytnldhpleicpjfaa

namespace Go.Proofs.Ytnldhpleicpjfaa
open Go.RowKit

theorem RInt.cells {w : World} {v : Value} {z : Int} (h : RInt w v z) : ∃ s m n c, v = .agg #[.bool s, .slice m n c] ∧ RInt w (.agg #[.bool s, .slice m n c]) z := by
  have h' := h
  obtain ⟨s, n, m, c, rfl, _, _, _⟩ := h'
  exact ⟨s, m, _, c, rfl, h⟩
theorem RInt.neg {w : World} {s : Bool} {l : Value} {z : Int} (h : RInt w (.agg #[.bool s, l]) z) : (s = true → z < 0) ∧ (z < 0 → s = true) := by
  obtain ⟨b, n, a, c, he, _, rfl, h0⟩ := h
  simp only [Value.agg.injEq, Array.mk.injEq, List.cons.injEq, Value.bool.injEq, and_true] at he
  obtain ⟨rfl, _⟩ := he
  cases s with
  | true => have : n ≠ 0 := fun e => absurd (h0 e) (by decide)
            rw [sg_true]; exact ⟨fun _ => by omega, fun _ => rfl⟩
  | false => rw [sg_false]; exact ⟨fun h => absurd h (by decide), fun h => by omega⟩
theorem nboxes4 (t : TypeId) (w : World) (x y x' y' x'' y'' u v : Value) : ∀ W, W = (((w.alloc (.cells #[x, y] t)).alloc (.cells #[x', y'] t)).alloc (.cells #[x'', y''] t)).alloc (.cells #[u, v] t) →
    Box2 W w.heap.size t x y ∧ Box2 W (w.heap.size + 1) t x' y' ∧ Box2 W (w.heap.size + 1 + 1) t x'' y'' ∧ Box2 W (w.heap.size + 1 + 1 + 1) t u v ∧ Below w.heap.size w W := by
  rintro W rfl
  have h := nboxes3 t w x y x' y' x'' y''
  have hb := below_alloc (((w.alloc (.cells #[x, y] t)).alloc (.cells #[x', y'] t)).alloc (.cells #[x'', y''] t)) (.cells #[u, v] t)
  refine ⟨h.1.step hb, h.2.1.step hb, h.2.2.1.step hb, ?_, h.2.2.2.trans (hb.mono (by simp; omega))⟩
  have := Box2.new (((w.alloc (.cells #[x, y] t)).alloc (.cells #[x', y'] t)).alloc (.cells #[x'', y''] t)) t u v
  simpa only [World.size_alloc] using this
theorem ret_two {fn : Func} {R : Ending → World → Prop} {a : Act} {w : World} {p q : Tmp} (h : fn.results = #[.cell p 30, .cell q 30]) (g g' : Nat) (x y x' y' : Value)
    (hp : a.tmps.getD p undef = .pointer (some ⟨g, 0, none⟩)) (hq : a.tmps.getD q undef = .pointer (some ⟨g', 0, none⟩)) (hg : Box2 w g 30 x y) (hg' : Box2 w g' 30 x' y') (hd : a.defers = []) (hR : R (.returned (.tuple #[.agg #[x, y], .agg #[x', y']])) w) : bodyPost Try.prog fn R .ret a w := by
  refine bodyPost_ret ?_ hd hR
  have hp' : a.tmps[p]?.getD undef = .pointer (some ⟨g, 0, none⟩) := by simpa using hp
  have hq' : a.tmps[q]?.getD undef = .pointer (some ⟨g', 0, none⟩) := by simpa using hq
  simp [results, h, hp', hq', asAddr, run_loadVar_row w g 30 30 #[x, y] (0, 0) _ hg Try.underlying30 rfl Try.infoRef, run_loadVar_row w g' 30 30 #[x', y'] (0, 0) _ hg' Try.underlying30 rfl Try.infoRef]
theorem sgn_dlen (z : Int) : (D.lim (sgnI z).natAbs).length ≤ 100000000 := Nat.le_trans (D.lim_length_le (k := 1) (by unfold sgnI D.BB; split; decide; split <;> decide)) (by decide)

set_option maxRecDepth 100000 in
set_option maxHeartbeats 8000000 in
theorem rdm_any (v1 v2 : Value) (x y : Int) (w : World) (h1 : RInt w v1 x) (h2 : RInt w v2 y) (l1 : (D.lim x.natAbs).length ≤ 10000000) (l2 : (D.lim y.natAbs).length ≤ 10000000) (hy : y ≠ 0) :
    Calls Try.prog 38 #[v1, v2] w fun e w' => ∃ q r, e = .returned (.tuple #[q, r]) ∧ RInt w' q (x / y) ∧ RInt w' r (x % y) ∧ Below w.heap.size w w' := by
  have Y2 := hide h2
  obtain ⟨b1, n1, a1, c1, rfl, hn1, rfl, h01⟩ := h1
  obtain ⟨b2, n2, a2, c2, rfl, hn2, rfl, h02⟩ := h2
  replace hy : 0 < n2 := by rcases Nat.eq_zero_or_pos n2 with h | h; exact absurd (by rw [h, sg_zero]) hy; exact h
  rw [sg_abs] at l1 l2
  have HE := hide (nboxes4 30 w (.bool b1) (.slice a1 (D.lim n1).length c1) (.bool b2) (.slice a2 (D.lim n2).length c2) (.bool false) (.slice none 0 0) (.bool false) (.slice none 0 0) _ rfl)
  have HN1 := hide (hn1.below HE.out.2.2.2.2)
  have HN2 := hide (hn2.below HE.out.2.2.2.2)
  have LQ : Hid ((D.lim (sg (b1 != b2) (n1 / n2)).natAbs).length ≤ 100000000) := hide (by rw [sg_abs]; exact Nat.le_trans (dlen_mono (Nat.div_le_self _ _)) (by omega))
  have LR : Hid ((D.lim (sg b1 (n1 % n2)).natAbs).length ≤ 100000000) := hide (by rw [sg_abs]; exact Nat.le_trans (dlen_mono (Nat.mod_le _ _)) (by omega))
  have LY : Hid ((D.lim (sg b2 n2).natAbs).length ≤ 100000000) := hide (by rw [sg_abs]; omega)
  clear hn1 h01 hn2 h02
  go_enter Try.func38, Try.ntmps38
  go_wp2_with fail
  refine (rdivide_any _ _ n1 n2 _ HN1.out HN2.out hy l1 l2).mono ?_
  rintro e w1 ⟨lq, lr, rfl, nq, nr, hb⟩
  have HB := hide (HE.out.2.2.2.2.trans (hb.mono HE.out.2.2.2.2.size))
  have P0 := hide (HE.out.1.step hb)
  have P1 := hide (HE.out.2.1.step hb)
  have P2 := hide (HE.out.2.2.1.step hb)
  have P3 := hide (HE.out.2.2.2.1.step hb)
  have NQ := hide nq
  have NR := hide nr
  clear hb HE HN1 HN2 nq nr l1 l2
  generalize (D.lim n1).length = L1 at *
  generalize (D.lim n2).length = L2 at *
  go_wp2_with fail
  go_cut [8, 9] from 18 (fun pq pr wx => ∃ gq gr sq mq kq cq sr mr kr cr, pq = .pointer (some ⟨gq, 0, none⟩) ∧ pr = .pointer (some ⟨gr, 0, none⟩) ∧ (w.heap.size < gq ∧ (w.heap.size + 1) < gq ∧ (w.heap.size + 1 + 1) < gq ∧ (w.heap.size + 1 + 1 + 1) < gq ∧ w.heap.size < gr ∧ (w.heap.size + 1) < gr ∧ (w.heap.size + 1 + 1) < gr ∧ (w.heap.size + 1 + 1 + 1) < gr ∧ gq ≠ gr) ∧ Below w.heap.size w wx ∧ Box2 wx w.heap.size 30 (.bool b1) (.slice a1 L1 c1) ∧ Box2 wx (w.heap.size + 1) 30 (.bool b2) (.slice a2 L2 c2) ∧ Box2 wx (w.heap.size + 1 + 1) 30 (.bool false) (.slice none 0 0) ∧ Box2 wx (w.heap.size + 1 + 1 + 1) 30 (.bool false) (.slice none 0 0) ∧ Box2 wx gq 30 (.bool sq) (.slice mq kq cq) ∧ Box2 wx gr 30 (.bool sr) (.slice mr kr cr) ∧ RInt wx (.agg #[.bool sq, .slice mq kq cq]) (sg (b1 != b2) (n1 / n2)) ∧ RInt wx (.agg #[.bool sr, .slice mr kr cr]) (sg b1 (n1 % n2)))
  case first =>
    refine wp_calm (fun w' => Below w.heap.size w w' ∧ Box2 w' w.heap.size 30 (.bool b1) (.slice a1 L1 c1) ∧ Box2 w' (w.heap.size + 1) 30 (.bool b2) (.slice a2 L2 c2) ∧ Box2 w' (w.heap.size + 1 + 1) 30 (.bool false) (.slice none 0 0) ∧ Box2 w' (w.heap.size + 1 + 1 + 1) 30 (.bool false) (.slice none 0 0) ∧ Nums w' lq (D.lim (n1 / n2)) ∧ Nums w' lr (D.lim (n1 % n2))) (fun _ => true) 15 #[false, false, false, false, false, false, false, false, false, false, false, false, false, false, false] (by kernel_rfl) rfl rfl ?_
    have HF := hide (And.intro (HB.out.drew) (And.intro (P0.out.drew) (And.intro (P1.out.drew) (And.intro (P2.out.drew) (And.intro (P3.out.drew) (And.intro (NQ.out.drew) (NR.out.drew)))))))
    generalize w1.drew = w1d at *
    refine Calm.take (i := 0) (v := ?_) (a' := ?_) (l' := #[true, false, false, false, false, false, false, false, false, false, false, false, false, false, false]) (d := some 18) rfl (by kernel_rfl) (by kernel_rfl) (by kernel_rfl) (by kernel_rfl) (fun _ _ _ h => h) HF.out rfl ?_ rfl rfl ?_ ?_
    rotate_left
    · intro w' hF; clear hF; go_simp; try rfl
    rotate_left
    · simp only [Act.put]; exact rfl
    refine Calm.take (i := 1) (v := ?_) (a' := ?_) (l' := #[true, true, false, false, false, false, false, false, false, false, false, false, false, false, false]) (d := some 19) rfl (by kernel_rfl) (by kernel_rfl) (by kernel_rfl) (by kernel_rfl) (fun _ _ _ h => h) HF.out rfl ?_ rfl rfl ?_ ?_
    rotate_left
    · intro w' hF; have f10 := hF.2.1.cell0; have f11 := hF.2.1.cell1; have f20 := hF.2.2.1.cell0; have f21 := hF.2.2.1.cell1; have f30 := hF.2.2.2.1.cell0; have f31 := hF.2.2.2.1.cell1; have f40 := hF.2.2.2.2.1.cell0; have f41 := hF.2.2.2.2.1.cell1; clear hF; go_simp; try rfl
    rotate_left
    · simp only [Act.put]; exact rfl
    refine Calm.take (i := 2) (v := ?_) (a' := ?_) (l' := #[true, true, true, false, false, false, false, false, false, false, false, false, false, false, false]) (d := some 20) rfl (by kernel_rfl) (by kernel_rfl) (by kernel_rfl) (by kernel_rfl) (fun _ _ _ h => h) HF.out rfl ?_ rfl rfl ?_ ?_
    rotate_left
    · intro w' hF; clear hF; go_simp; try rfl
    rotate_left
    · simp only [Act.put]; exact rfl
    refine Calm.take (i := 3) (v := ?_) (a' := ?_) (l' := #[true, true, true, true, false, false, false, false, false, false, false, false, false, false, false]) (d := some 21) rfl (by kernel_rfl) (by kernel_rfl) (by kernel_rfl) (by kernel_rfl) (fun _ _ _ h => h) HF.out rfl ?_ rfl rfl ?_ ?_
    rotate_left
    · intro w' hF; have f10 := hF.2.1.cell0; have f11 := hF.2.1.cell1; have f20 := hF.2.2.1.cell0; have f21 := hF.2.2.1.cell1; have f30 := hF.2.2.2.1.cell0; have f31 := hF.2.2.2.1.cell1; have f40 := hF.2.2.2.2.1.cell0; have f41 := hF.2.2.2.2.1.cell1; clear hF; go_simp; try rfl
    rotate_left
    · simp only [Act.put]; exact rfl
    refine Calm.take (i := 4) (v := ?_) (a' := ?_) (l' := #[true, true, true, true, true, false, false, false, false, false, false, false, false, false, false]) (d := some 22) rfl (by kernel_rfl) (by kernel_rfl) (by kernel_rfl) (by kernel_rfl) (fun _ _ _ h => h) HF.out rfl ?_ rfl rfl ?_ ?_
    rotate_left
    · intro w' hF; clear hF; go_simp; try rfl
    rotate_left
    · simp only [Act.put]; exact rfl
    refine Calm.take (i := 5) (v := ?_) (a' := ?_) (l' := #[true, true, true, true, true, true, false, false, false, false, false, false, false, false, false]) (d := some 23) rfl (by kernel_rfl) (by kernel_rfl) (by kernel_rfl) (by kernel_rfl) (fun _ _ _ h => h) HF.out rfl ?_ rfl rfl ?_ ?_
    rotate_left
    · intro w' hF; clear hF; go_simp; try rfl
    rotate_left
    · simp only [Act.put]; exact rfl
    refine Calm.take (i := 7) (v := ?_) (a' := ?_) (l' := #[true, true, true, true, true, true, false, true, false, false, false, false, false, false, false]) (d := some 25) rfl (by kernel_rfl) (by kernel_rfl) (by kernel_rfl) (by kernel_rfl) (fun _ _ _ h => h) HF.out rfl ?_ rfl rfl ?_ ?_
    rotate_left
    · intro w' hF; clear hF; go_simp; try rfl
    rotate_left
    · simp only [Act.put]; exact rfl
    refine Calm.take (i := 8) (v := ?_) (a' := ?_) (l' := #[true, true, true, true, true, true, false, true, true, false, false, false, false, false, false]) (d := some 26) rfl (by kernel_rfl) (by kernel_rfl) (by kernel_rfl) (by kernel_rfl) (fun _ _ _ h => h) HF.out rfl ?_ rfl rfl ?_ ?_
    rotate_left
    · intro w' hF; have f10 := hF.2.1.cell0; have f11 := hF.2.1.cell1; have f20 := hF.2.2.1.cell0; have f21 := hF.2.2.1.cell1; have f30 := hF.2.2.2.1.cell0; have f31 := hF.2.2.2.1.cell1; have f40 := hF.2.2.2.2.1.cell0; have f41 := hF.2.2.2.2.1.cell1; clear hF; go_simp; try rfl
    rotate_left
    · simp only [Act.put]; exact rfl
    refine Calm.take (i := 9) (v := ?_) (a' := ?_) (l' := #[true, true, true, true, true, true, false, true, true, true, false, false, false, false, false]) (d := some 27) rfl (by kernel_rfl) (by kernel_rfl) (by kernel_rfl) (by kernel_rfl) (fun _ _ _ h => h) HF.out rfl ?_ rfl rfl ?_ ?_
    rotate_left
    · intro w' hF; clear hF; go_simp; try rfl
    rotate_left
    · simp only [Act.put]; exact rfl
    refine Calm.three (i := 6) (j := 11) (m := 12) (l := #[true, true, true, true, true, true, true, true, true, true, false, false, false, false, false]) (l' := #[true, true, true, true, true, true, false, true, true, true, false, true, false, false, false]) (l'' := #[true, true, true, true, true, true, false, true, true, true, false, false, true, false, false]) (by kernel_rfl) rfl rfl rfl rfl rfl rfl rfl rfl rfl (fun K hK => ?_) (fun K hK => ?_) (fun K hK => ?_)
    · go_simp
      refine (rnorm2_any _ _ (D.lim (n1 / n2)) _ HF.out.2.2.2.2.2.1 (D.ok_lim _)).mono ?_
      rintro e u1 ⟨v, rfl, n, hb⟩
      rw [D.val_lim] at n
      obtain ⟨sq, mq, kq, cq, rfl, n⟩ := n.cells
      have HF' := hide (And.intro (HF.out.1.trans ((hb).mono HF.out.1.size)) (And.intro (HF.out.2.1.step (hb)) (And.intro (HF.out.2.2.1.step (hb)) (And.intro (HF.out.2.2.2.1.step (hb)) (And.intro (HF.out.2.2.2.2.1.step (hb)) (And.intro (HF.out.2.2.2.2.2.1.below (hb)) (HF.out.2.2.2.2.2.2.below (hb))))))))
      have TQ := hide (n)
      refine hK _ _ (fun _ => HF'.out) ?_
      clear hK K HF hb n
      have HF := hide HF'.out
      clear HF'
      refine Calm.three (i := 10) (j := 11) (m := 12) (l := #[true, true, true, true, true, true, true, true, true, true, true, false, false, false, false]) (l' := #[true, true, true, true, true, true, true, true, true, true, false, true, false, false, false]) (l'' := #[true, true, true, true, true, true, true, true, true, true, false, false, true, false, false]) (by kernel_rfl) rfl rfl rfl rfl rfl rfl rfl rfl rfl (fun K hK => ?_) (fun K hK => ?_) (fun K hK => ?_)
      · go_simp
        refine (rnorm2_any _ _ (D.lim (n1 % n2)) _ HF.out.2.2.2.2.2.2 (D.ok_lim _)).mono ?_
        rintro e u2 ⟨v, rfl, n, hb⟩
        rw [D.val_lim] at n
        obtain ⟨sr, mr, kr, cr, rfl, n⟩ := n.cells
        replace TQ := hide (TQ.out.below (hb))
        have HF' := hide (And.intro (HF.out.1.trans ((hb).mono HF.out.1.size)) (And.intro (HF.out.2.1.step (hb)) (And.intro (HF.out.2.2.1.step (hb)) (And.intro (HF.out.2.2.2.1.step (hb)) (And.intro (HF.out.2.2.2.2.1.step (hb)) (And.intro (HF.out.2.2.2.2.2.1.below (hb)) (HF.out.2.2.2.2.2.2.below (hb))))))))
        have TR := hide (n)
        refine hK _ _ (fun _ => HF'.out) ?_
        clear hK K HF hb n
        have HF := hide HF'.out
        clear HF'
        refine Calm.two (i := 11) (j := 12) (l := #[true, true, true, true, true, true, true, true, true, true, true, true, false, false, false]) (l' := #[true, true, true, true, true, true, true, true, true, true, true, false, true, false, false]) (by kernel_rfl) rfl rfl rfl rfl rfl rfl (fun K hK => ?_) (fun K hK => ?_)
        · go_simp
          have al := below_alloc u2 (.cells #[.bool false, .slice none 0 0] 30)
          have HF' := hide (And.intro (HF.out.1.trans ((al).mono HF.out.1.size)) (And.intro (HF.out.2.1.step (al)) (And.intro (HF.out.2.2.1.step (al)) (And.intro (HF.out.2.2.2.1.step (al)) (And.intro (HF.out.2.2.2.2.1.step (al)) (And.intro (HF.out.2.2.2.2.2.1.below (al)) (HF.out.2.2.2.2.2.2.below (al))))))))
          have BXq := hide (Box2.new u2 30 (.bool false) (.slice none 0 0))
          replace TQ := hide (TQ.out.below (al))
          replace TR := hide (TR.out.below (al))
          have LT1q := hide (HF.out.2.1.lt)
          have LT2q := hide (HF.out.2.2.1.lt)
          have LT3q := hide (HF.out.2.2.2.1.lt)
          have LT4q := hide (HF.out.2.2.2.2.1.lt)
          have GEq := hide (HF.out.1.size)
          refine hK _ _ (fun _ => HF'.out) ?_
          clear hK K HF al
          have HF := hide HF'.out
          clear HF'
          generalize u2.alloc (.cells #[.bool false, .slice none 0 0] 30) = wzq at *
          generalize u2.heap.size = gq at *
          refine Calm.one (i := 12) (l' := #[true, true, true, true, true, true, true, true, true, true, true, true, true, false, false]) (by kernel_rfl) rfl rfl rfl fun K hK => ?_
          go_simp
          have al := below_alloc wzq (.cells #[.bool false, .slice none 0 0] 30)
          have HF' := hide (And.intro (HF.out.1.trans ((al).mono HF.out.1.size)) (And.intro (HF.out.2.1.step (al)) (And.intro (HF.out.2.2.1.step (al)) (And.intro (HF.out.2.2.2.1.step (al)) (And.intro (HF.out.2.2.2.2.1.step (al)) (And.intro (HF.out.2.2.2.2.2.1.below (al)) (HF.out.2.2.2.2.2.2.below (al))))))))
          have BXr := hide (Box2.new wzq 30 (.bool false) (.slice none 0 0))
          replace TQ := hide (TQ.out.below (al))
          replace TR := hide (TR.out.below (al))
          have LTqr := hide (BXq.out.lt)
          replace BXq := hide (BXq.out.step al)
          have LT1r := hide (HF.out.2.1.lt)
          have LT2r := hide (HF.out.2.2.1.lt)
          have LT3r := hide (HF.out.2.2.2.1.lt)
          have LT4r := hide (HF.out.2.2.2.2.1.lt)
          have GEr := hide (HF.out.1.size)
          refine hK _ _ (fun _ => HF'.out) ?_
          clear hK K HF al
          have HF := hide HF'.out
          clear HF'
          generalize wzq.alloc (.cells #[.bool false, .slice none 0 0] 30) = wzr at *
          generalize wzq.heap.size = gr at *
          refine Calm.one (i := 13) (l' := #[true, true, true, true, true, true, true, true, true, true, true, true, true, true, false]) (by kernel_rfl) rfl rfl rfl fun K hK => ?_
          have LTS := hide (And.intro LT1q.out (And.intro LT2q.out (And.intro LT3q.out (And.intro LT4q.out (And.intro LT1r.out (And.intro LT2r.out (And.intro LT3r.out (And.intro LT4r.out (show gq ≠ gr by first | exact Nat.ne_of_lt LTqr.out | exact Nat.ne_of_gt LTrq.out)))))))))
          have hc0 := BXq.out.cell0
          have hc1 := BXq.out.cell1
          have hf0 := BXq.out.free 0
          have hf1 := BXq.out.free 1
          go_simp
          have HF' := hide (And.intro (below_put HF.out.1 (show w.heap.size ≤ gq by have hx := LTS.out; omega) (.bool sq) (.slice mq kq cq)) (And.intro (HF.out.2.1.other (C := gq) (by have hx := LTS.out; omega) (.bool sq) (.slice mq kq cq)) (And.intro (HF.out.2.2.1.other (C := gq) (by have hx := LTS.out; omega) (.bool sq) (.slice mq kq cq)) (And.intro (HF.out.2.2.2.1.other (C := gq) (by have hx := LTS.out; omega) (.bool sq) (.slice mq kq cq)) (And.intro (HF.out.2.2.2.2.1.other (C := gq) (by have hx := LTS.out; omega) (.bool sq) (.slice mq kq cq)) (And.intro (BXq.out.keeps (by simp) (by simp) (.bool sq) (.slice mq kq cq) _ _ HF.out.2.2.2.2.2.1) (BXq.out.keeps (by simp) (by simp) (.bool sq) (.slice mq kq cq) _ _ HF.out.2.2.2.2.2.2)))))))
          replace TQ := hide (TQ.out.keep (BXq.out.keeps (by simp) (by simp) (.bool sq) (.slice mq kq cq)))
          replace TR := hide (TR.out.keep (BXq.out.keeps (by simp) (by simp) (.bool sq) (.slice mq kq cq)))
          replace BXr := hide (BXr.out.other (C := gq) (by have hx := LTS.out; omega) (.bool sq) (.slice mq kq cq))
          replace BXq := hide (BXq.out.put (.bool sq) (.slice mq kq cq))
          refine hK _ _ (fun _ => HF'.out) ?_
          clear hK K HF hc0 hf0 hc1 hf1
          have HF := hide HF'.out
          clear HF'
          generalize ((wzr.setCell ⟨gq, 0, none⟩ (.bool sq)).setCell ⟨gq, 1, none⟩ (.slice mq kq cq)) = ws1 at *
          refine Calm.one (i := 14) (l' := #[true, true, true, true, true, true, true, true, true, true, true, true, true, true, true]) (by kernel_rfl) rfl rfl rfl fun K hK => ?_
          have hc0 := BXr.out.cell0
          have hc1 := BXr.out.cell1
          have hf0 := BXr.out.free 0
          have hf1 := BXr.out.free 1
          go_simp
          have HF' := hide (And.intro (below_put HF.out.1 (show w.heap.size ≤ gr by have hx := LTS.out; omega) (.bool sr) (.slice mr kr cr)) (And.intro (HF.out.2.1.other (C := gr) (by have hx := LTS.out; omega) (.bool sr) (.slice mr kr cr)) (And.intro (HF.out.2.2.1.other (C := gr) (by have hx := LTS.out; omega) (.bool sr) (.slice mr kr cr)) (And.intro (HF.out.2.2.2.1.other (C := gr) (by have hx := LTS.out; omega) (.bool sr) (.slice mr kr cr)) (And.intro (HF.out.2.2.2.2.1.other (C := gr) (by have hx := LTS.out; omega) (.bool sr) (.slice mr kr cr)) (And.intro (BXr.out.keeps (by simp) (by simp) (.bool sr) (.slice mr kr cr) _ _ HF.out.2.2.2.2.2.1) (BXr.out.keeps (by simp) (by simp) (.bool sr) (.slice mr kr cr) _ _ HF.out.2.2.2.2.2.2)))))))
          replace TQ := hide (TQ.out.keep (BXr.out.keeps (by simp) (by simp) (.bool sr) (.slice mr kr cr)))
          replace TR := hide (TR.out.keep (BXr.out.keeps (by simp) (by simp) (.bool sr) (.slice mr kr cr)))
          replace BXq := hide (BXq.out.other (C := gr) (by have hx := LTS.out; omega) (.bool sr) (.slice mr kr cr))
          replace BXr := hide (BXr.out.put (.bool sr) (.slice mr kr cr))
          refine hK _ _ (fun _ => HF'.out) ?_
          clear hK K HF hc0 hf0 hc1 hf1
          have HF := hide HF'.out
          clear HF'
          generalize ((ws1.setCell ⟨gr, 0, none⟩ (.bool sr)).setCell ⟨gr, 1, none⟩ (.slice mr kr cr)) = ws2 at *
          refine Calm.done (by kernel_rfl) ?_
          go_wp2
          go_meet
          case rel => exact ⟨gq, gr, sq, mq, kq, cq, sr, mr, kr, cr, rfl, rfl, LTS.out, HF.out.1, HF.out.2.1, HF.out.2.2.1, HF.out.2.2.2.1, HF.out.2.2.2.2.1, BXq.out, BXr.out, TQ.out, TR.out⟩
        · go_simp
          have al := below_alloc u2 (.cells #[.bool false, .slice none 0 0] 30)
          have HF' := hide (And.intro (HF.out.1.trans ((al).mono HF.out.1.size)) (And.intro (HF.out.2.1.step (al)) (And.intro (HF.out.2.2.1.step (al)) (And.intro (HF.out.2.2.2.1.step (al)) (And.intro (HF.out.2.2.2.2.1.step (al)) (And.intro (HF.out.2.2.2.2.2.1.below (al)) (HF.out.2.2.2.2.2.2.below (al))))))))
          have BXr := hide (Box2.new u2 30 (.bool false) (.slice none 0 0))
          replace TQ := hide (TQ.out.below (al))
          replace TR := hide (TR.out.below (al))
          have LT1r := hide (HF.out.2.1.lt)
          have LT2r := hide (HF.out.2.2.1.lt)
          have LT3r := hide (HF.out.2.2.2.1.lt)
          have LT4r := hide (HF.out.2.2.2.2.1.lt)
          have GEr := hide (HF.out.1.size)
          refine hK _ _ (fun _ => HF'.out) ?_
          clear hK K HF al
          have HF := hide HF'.out
          clear HF'
          generalize u2.alloc (.cells #[.bool false, .slice none 0 0] 30) = wzr at *
          generalize u2.heap.size = gr at *
          refine Calm.one (i := 11) (l' := #[true, true, true, true, true, true, true, true, true, true, true, true, true, false, false]) (by kernel_rfl) rfl rfl rfl fun K hK => ?_
          go_simp
          have al := below_alloc wzr (.cells #[.bool false, .slice none 0 0] 30)
          have HF' := hide (And.intro (HF.out.1.trans ((al).mono HF.out.1.size)) (And.intro (HF.out.2.1.step (al)) (And.intro (HF.out.2.2.1.step (al)) (And.intro (HF.out.2.2.2.1.step (al)) (And.intro (HF.out.2.2.2.2.1.step (al)) (And.intro (HF.out.2.2.2.2.2.1.below (al)) (HF.out.2.2.2.2.2.2.below (al))))))))
          have BXq := hide (Box2.new wzr 30 (.bool false) (.slice none 0 0))
          replace TQ := hide (TQ.out.below (al))
          replace TR := hide (TR.out.below (al))
          have LTrq := hide (BXr.out.lt)
          replace BXr := hide (BXr.out.step al)
          have LT1q := hide (HF.out.2.1.lt)
          have LT2q := hide (HF.out.2.2.1.lt)
          have LT3q := hide (HF.out.2.2.2.1.lt)
          have LT4q := hide (HF.out.2.2.2.2.1.lt)
          have GEq := hide (HF.out.1.size)
          refine hK _ _ (fun _ => HF'.out) ?_
          clear hK K HF al
          have HF := hide HF'.out
          clear HF'
          generalize wzr.alloc (.cells #[.bool false, .slice none 0 0] 30) = wzq at *
          generalize wzr.heap.size = gq at *
          refine Calm.one (i := 13) (l' := #[true, true, true, true, true, true, true, true, true, true, true, true, true, true, false]) (by kernel_rfl) rfl rfl rfl fun K hK => ?_
          have LTS := hide (And.intro LT1q.out (And.intro LT2q.out (And.intro LT3q.out (And.intro LT4q.out (And.intro LT1r.out (And.intro LT2r.out (And.intro LT3r.out (And.intro LT4r.out (show gq ≠ gr by first | exact Nat.ne_of_lt LTqr.out | exact Nat.ne_of_gt LTrq.out)))))))))
          have hc0 := BXq.out.cell0
          have hc1 := BXq.out.cell1
          have hf0 := BXq.out.free 0
          have hf1 := BXq.out.free 1
          go_simp
          have HF' := hide (And.intro (below_put HF.out.1 (show w.heap.size ≤ gq by have hx := LTS.out; omega) (.bool sq) (.slice mq kq cq)) (And.intro (HF.out.2.1.other (C := gq) (by have hx := LTS.out; omega) (.bool sq) (.slice mq kq cq)) (And.intro (HF.out.2.2.1.other (C := gq) (by have hx := LTS.out; omega) (.bool sq) (.slice mq kq cq)) (And.intro (HF.out.2.2.2.1.other (C := gq) (by have hx := LTS.out; omega) (.bool sq) (.slice mq kq cq)) (And.intro (HF.out.2.2.2.2.1.other (C := gq) (by have hx := LTS.out; omega) (.bool sq) (.slice mq kq cq)) (And.intro (BXq.out.keeps (by simp) (by simp) (.bool sq) (.slice mq kq cq) _ _ HF.out.2.2.2.2.2.1) (BXq.out.keeps (by simp) (by simp) (.bool sq) (.slice mq kq cq) _ _ HF.out.2.2.2.2.2.2)))))))
          replace TQ := hide (TQ.out.keep (BXq.out.keeps (by simp) (by simp) (.bool sq) (.slice mq kq cq)))
          replace TR := hide (TR.out.keep (BXq.out.keeps (by simp) (by simp) (.bool sq) (.slice mq kq cq)))
          replace BXr := hide (BXr.out.other (C := gq) (by have hx := LTS.out; omega) (.bool sq) (.slice mq kq cq))
          replace BXq := hide (BXq.out.put (.bool sq) (.slice mq kq cq))
          refine hK _ _ (fun _ => HF'.out) ?_
          clear hK K HF hc0 hf0 hc1 hf1
          have HF := hide HF'.out
          clear HF'
          generalize ((wzq.setCell ⟨gq, 0, none⟩ (.bool sq)).setCell ⟨gq, 1, none⟩ (.slice mq kq cq)) = ws1 at *
          refine Calm.one (i := 14) (l' := #[true, true, true, true, true, true, true, true, true, true, true, true, true, true, true]) (by kernel_rfl) rfl rfl rfl fun K hK => ?_
          have hc0 := BXr.out.cell0
          have hc1 := BXr.out.cell1
          have hf0 := BXr.out.free 0
          have hf1 := BXr.out.free 1
          go_simp
          have HF' := hide (And.intro (below_put HF.out.1 (show w.heap.size ≤ gr by have hx := LTS.out; omega) (.bool sr) (.slice mr kr cr)) (And.intro (HF.out.2.1.other (C := gr) (by have hx := LTS.out; omega) (.bool sr) (.slice mr kr cr)) (And.intro (HF.out.2.2.1.other (C := gr) (by have hx := LTS.out; omega) (.bool sr) (.slice mr kr cr)) (And.intro (HF.out.2.2.2.1.other (C := gr) (by have hx := LTS.out; omega) (.bool sr) (.slice mr kr cr)) (And.intro (HF.out.2.2.2.2.1.other (C := gr) (by have hx := LTS.out; omega) (.bool sr) (.slice mr kr cr)) (And.intro (BXr.out.keeps (by simp) (by simp) (.bool sr) (.slice mr kr cr) _ _ HF.out.2.2.2.2.2.1) (BXr.out.keeps (by simp) (by simp) (.bool sr) (.slice mr kr cr) _ _ HF.out.2.2.2.2.2.2)))))))
          replace TQ := hide (TQ.out.keep (BXr.out.keeps (by simp) (by simp) (.bool sr) (.slice mr kr cr)))
          replace TR := hide (TR.out.keep (BXr.out.keeps (by simp) (by simp) (.bool sr) (.slice mr kr cr)))
          replace BXq := hide (BXq.out.other (C := gr) (by have hx := LTS.out; omega) (.bool sr) (.slice mr kr cr))
          replace BXr := hide (BXr.out.put (.bool sr) (.slice mr kr cr))
          refine hK _ _ (fun _ => HF'.out) ?_
          clear hK K HF hc0 hf0 hc1 hf1
          have HF := hide HF'.out
          clear HF'
          generalize ((ws1.setCell ⟨gr, 0, none⟩ (.bool sr)).setCell ⟨gr, 1, none⟩ (.slice mr kr cr)) = ws2 at *
          refine Calm.done (by kernel_rfl) ?_
          go_wp2
          go_meet
          case rel => exact ⟨gq, gr, sq, mq, kq, cq, sr, mr, kr, cr, rfl, rfl, LTS.out, HF.out.1, HF.out.2.1, HF.out.2.2.1, HF.out.2.2.2.1, HF.out.2.2.2.2.1, BXq.out, BXr.out, TQ.out, TR.out⟩
      · go_simp
        have al := below_alloc u1 (.cells #[.bool false, .slice none 0 0] 30)
        have HF' := hide (And.intro (HF.out.1.trans ((al).mono HF.out.1.size)) (And.intro (HF.out.2.1.step (al)) (And.intro (HF.out.2.2.1.step (al)) (And.intro (HF.out.2.2.2.1.step (al)) (And.intro (HF.out.2.2.2.2.1.step (al)) (And.intro (HF.out.2.2.2.2.2.1.below (al)) (HF.out.2.2.2.2.2.2.below (al))))))))
        have BXq := hide (Box2.new u1 30 (.bool false) (.slice none 0 0))
        replace TQ := hide (TQ.out.below (al))
        have LT1q := hide (HF.out.2.1.lt)
        have LT2q := hide (HF.out.2.2.1.lt)
        have LT3q := hide (HF.out.2.2.2.1.lt)
        have LT4q := hide (HF.out.2.2.2.2.1.lt)
        have GEq := hide (HF.out.1.size)
        refine hK _ _ (fun _ => HF'.out) ?_
        clear hK K HF al
        have HF := hide HF'.out
        clear HF'
        generalize u1.alloc (.cells #[.bool false, .slice none 0 0] 30) = wzq at *
        generalize u1.heap.size = gq at *
        refine Calm.two (i := 10) (j := 12) (l := #[true, true, true, true, true, true, true, true, true, true, true, true, false, false, false]) (l' := #[true, true, true, true, true, true, true, true, true, true, false, true, true, false, false]) (by kernel_rfl) rfl rfl rfl rfl rfl rfl (fun K hK => ?_) (fun K hK => ?_)
        · go_simp
          refine (rnorm2_any _ _ (D.lim (n1 % n2)) _ HF.out.2.2.2.2.2.2 (D.ok_lim _)).mono ?_
          rintro e u2 ⟨v, rfl, n, hb⟩
          rw [D.val_lim] at n
          obtain ⟨sr, mr, kr, cr, rfl, n⟩ := n.cells
          replace TQ := hide (TQ.out.below (hb))
          replace BXq := hide (BXq.out.step hb)
          have HF' := hide (And.intro (HF.out.1.trans ((hb).mono HF.out.1.size)) (And.intro (HF.out.2.1.step (hb)) (And.intro (HF.out.2.2.1.step (hb)) (And.intro (HF.out.2.2.2.1.step (hb)) (And.intro (HF.out.2.2.2.2.1.step (hb)) (And.intro (HF.out.2.2.2.2.2.1.below (hb)) (HF.out.2.2.2.2.2.2.below (hb))))))))
          have TR := hide (n)
          refine hK _ _ (fun _ => HF'.out) ?_
          clear hK K HF hb n
          have HF := hide HF'.out
          clear HF'
          refine Calm.one (i := 12) (l' := #[true, true, true, true, true, true, true, true, true, true, true, true, true, false, false]) (by kernel_rfl) rfl rfl rfl fun K hK => ?_
          go_simp
          have al := below_alloc u2 (.cells #[.bool false, .slice none 0 0] 30)
          have HF' := hide (And.intro (HF.out.1.trans ((al).mono HF.out.1.size)) (And.intro (HF.out.2.1.step (al)) (And.intro (HF.out.2.2.1.step (al)) (And.intro (HF.out.2.2.2.1.step (al)) (And.intro (HF.out.2.2.2.2.1.step (al)) (And.intro (HF.out.2.2.2.2.2.1.below (al)) (HF.out.2.2.2.2.2.2.below (al))))))))
          have BXr := hide (Box2.new u2 30 (.bool false) (.slice none 0 0))
          replace TQ := hide (TQ.out.below (al))
          replace TR := hide (TR.out.below (al))
          have LTqr := hide (BXq.out.lt)
          replace BXq := hide (BXq.out.step al)
          have LT1r := hide (HF.out.2.1.lt)
          have LT2r := hide (HF.out.2.2.1.lt)
          have LT3r := hide (HF.out.2.2.2.1.lt)
          have LT4r := hide (HF.out.2.2.2.2.1.lt)
          have GEr := hide (HF.out.1.size)
          refine hK _ _ (fun _ => HF'.out) ?_
          clear hK K HF al
          have HF := hide HF'.out
          clear HF'
          generalize u2.alloc (.cells #[.bool false, .slice none 0 0] 30) = wzr at *
          generalize u2.heap.size = gr at *
          refine Calm.one (i := 13) (l' := #[true, true, true, true, true, true, true, true, true, true, true, true, true, true, false]) (by kernel_rfl) rfl rfl rfl fun K hK => ?_
          have LTS := hide (And.intro LT1q.out (And.intro LT2q.out (And.intro LT3q.out (And.intro LT4q.out (And.intro LT1r.out (And.intro LT2r.out (And.intro LT3r.out (And.intro LT4r.out (show gq ≠ gr by first | exact Nat.ne_of_lt LTqr.out | exact Nat.ne_of_gt LTrq.out)))))))))
          have hc0 := BXq.out.cell0
          have hc1 := BXq.out.cell1
          have hf0 := BXq.out.free 0
          have hf1 := BXq.out.free 1
          go_simp
          have HF' := hide (And.intro (below_put HF.out.1 (show w.heap.size ≤ gq by have hx := LTS.out; omega) (.bool sq) (.slice mq kq cq)) (And.intro (HF.out.2.1.other (C := gq) (by have hx := LTS.out; omega) (.bool sq) (.slice mq kq cq)) (And.intro (HF.out.2.2.1.other (C := gq) (by have hx := LTS.out; omega) (.bool sq) (.slice mq kq cq)) (And.intro (HF.out.2.2.2.1.other (C := gq) (by have hx := LTS.out; omega) (.bool sq) (.slice mq kq cq)) (And.intro (HF.out.2.2.2.2.1.other (C := gq) (by have hx := LTS.out; omega) (.bool sq) (.slice mq kq cq)) (And.intro (BXq.out.keeps (by simp) (by simp) (.bool sq) (.slice mq kq cq) _ _ HF.out.2.2.2.2.2.1) (BXq.out.keeps (by simp) (by simp) (.bool sq) (.slice mq kq cq) _ _ HF.out.2.2.2.2.2.2)))))))
          replace TQ := hide (TQ.out.keep (BXq.out.keeps (by simp) (by simp) (.bool sq) (.slice mq kq cq)))
          replace TR := hide (TR.out.keep (BXq.out.keeps (by simp) (by simp) (.bool sq) (.slice mq kq cq)))
          replace BXr := hide (BXr.out.other (C := gq) (by have hx := LTS.out; omega) (.bool sq) (.slice mq kq cq))
          replace BXq := hide (BXq.out.put (.bool sq) (.slice mq kq cq))
          refine hK _ _ (fun _ => HF'.out) ?_
          clear hK K HF hc0 hf0 hc1 hf1
          have HF := hide HF'.out
          clear HF'
          generalize ((wzr.setCell ⟨gq, 0, none⟩ (.bool sq)).setCell ⟨gq, 1, none⟩ (.slice mq kq cq)) = ws1 at *
          refine Calm.one (i := 14) (l' := #[true, true, true, true, true, true, true, true, true, true, true, true, true, true, true]) (by kernel_rfl) rfl rfl rfl fun K hK => ?_
          have hc0 := BXr.out.cell0
          have hc1 := BXr.out.cell1
          have hf0 := BXr.out.free 0
          have hf1 := BXr.out.free 1
          go_simp
          have HF' := hide (And.intro (below_put HF.out.1 (show w.heap.size ≤ gr by have hx := LTS.out; omega) (.bool sr) (.slice mr kr cr)) (And.intro (HF.out.2.1.other (C := gr) (by have hx := LTS.out; omega) (.bool sr) (.slice mr kr cr)) (And.intro (HF.out.2.2.1.other (C := gr) (by have hx := LTS.out; omega) (.bool sr) (.slice mr kr cr)) (And.intro (HF.out.2.2.2.1.other (C := gr) (by have hx := LTS.out; omega) (.bool sr) (.slice mr kr cr)) (And.intro (HF.out.2.2.2.2.1.other (C := gr) (by have hx := LTS.out; omega) (.bool sr) (.slice mr kr cr)) (And.intro (BXr.out.keeps (by simp) (by simp) (.bool sr) (.slice mr kr cr) _ _ HF.out.2.2.2.2.2.1) (BXr.out.keeps (by simp) (by simp) (.bool sr) (.slice mr kr cr) _ _ HF.out.2.2.2.2.2.2)))))))
          replace TQ := hide (TQ.out.keep (BXr.out.keeps (by simp) (by simp) (.bool sr) (.slice mr kr cr)))
          replace TR := hide (TR.out.keep (BXr.out.keeps (by simp) (by simp) (.bool sr) (.slice mr kr cr)))
          replace BXq := hide (BXq.out.other (C := gr) (by have hx := LTS.out; omega) (.bool sr) (.slice mr kr cr))
          replace BXr := hide (BXr.out.put (.bool sr) (.slice mr kr cr))
          refine hK _ _ (fun _ => HF'.out) ?_
          clear hK K HF hc0 hf0 hc1 hf1
          have HF := hide HF'.out
          clear HF'
          generalize ((ws1.setCell ⟨gr, 0, none⟩ (.bool sr)).setCell ⟨gr, 1, none⟩ (.slice mr kr cr)) = ws2 at *
          refine Calm.done (by kernel_rfl) ?_
          go_wp2
          go_meet
          case rel => exact ⟨gq, gr, sq, mq, kq, cq, sr, mr, kr, cr, rfl, rfl, LTS.out, HF.out.1, HF.out.2.1, HF.out.2.2.1, HF.out.2.2.2.1, HF.out.2.2.2.2.1, BXq.out, BXr.out, TQ.out, TR.out⟩
        · go_simp
          have al := below_alloc wzq (.cells #[.bool false, .slice none 0 0] 30)
          have HF' := hide (And.intro (HF.out.1.trans ((al).mono HF.out.1.size)) (And.intro (HF.out.2.1.step (al)) (And.intro (HF.out.2.2.1.step (al)) (And.intro (HF.out.2.2.2.1.step (al)) (And.intro (HF.out.2.2.2.2.1.step (al)) (And.intro (HF.out.2.2.2.2.2.1.below (al)) (HF.out.2.2.2.2.2.2.below (al))))))))
          have BXr := hide (Box2.new wzq 30 (.bool false) (.slice none 0 0))
          replace TQ := hide (TQ.out.below (al))
          have LTqr := hide (BXq.out.lt)
          replace BXq := hide (BXq.out.step al)
          have LT1r := hide (HF.out.2.1.lt)
          have LT2r := hide (HF.out.2.2.1.lt)
          have LT3r := hide (HF.out.2.2.2.1.lt)
          have LT4r := hide (HF.out.2.2.2.2.1.lt)
          have GEr := hide (HF.out.1.size)
          refine hK _ _ (fun _ => HF'.out) ?_
          clear hK K HF al
          have HF := hide HF'.out
          clear HF'
          generalize wzq.alloc (.cells #[.bool false, .slice none 0 0] 30) = wzr at *
          generalize wzq.heap.size = gr at *
          refine Calm.one (i := 10) (l' := #[true, true, true, true, true, true, true, true, true, true, true, true, true, false, false]) (by kernel_rfl) rfl rfl rfl fun K hK => ?_
          go_simp
          refine (rnorm2_any _ _ (D.lim (n1 % n2)) _ HF.out.2.2.2.2.2.2 (D.ok_lim _)).mono ?_
          rintro e u2 ⟨v, rfl, n, hb⟩
          rw [D.val_lim] at n
          obtain ⟨sr, mr, kr, cr, rfl, n⟩ := n.cells
          replace TQ := hide (TQ.out.below (hb))
          replace BXq := hide (BXq.out.step hb)
          replace BXr := hide (BXr.out.step hb)
          have HF' := hide (And.intro (HF.out.1.trans ((hb).mono HF.out.1.size)) (And.intro (HF.out.2.1.step (hb)) (And.intro (HF.out.2.2.1.step (hb)) (And.intro (HF.out.2.2.2.1.step (hb)) (And.intro (HF.out.2.2.2.2.1.step (hb)) (And.intro (HF.out.2.2.2.2.2.1.below (hb)) (HF.out.2.2.2.2.2.2.below (hb))))))))
          have TR := hide (n)
          refine hK _ _ (fun _ => HF'.out) ?_
          clear hK K HF hb n
          have HF := hide HF'.out
          clear HF'
          refine Calm.one (i := 13) (l' := #[true, true, true, true, true, true, true, true, true, true, true, true, true, true, false]) (by kernel_rfl) rfl rfl rfl fun K hK => ?_
          have LTS := hide (And.intro LT1q.out (And.intro LT2q.out (And.intro LT3q.out (And.intro LT4q.out (And.intro LT1r.out (And.intro LT2r.out (And.intro LT3r.out (And.intro LT4r.out (show gq ≠ gr by first | exact Nat.ne_of_lt LTqr.out | exact Nat.ne_of_gt LTrq.out)))))))))
          have hc0 := BXq.out.cell0
          have hc1 := BXq.out.cell1
          have hf0 := BXq.out.free 0
          have hf1 := BXq.out.free 1
          go_simp
          have HF' := hide (And.intro (below_put HF.out.1 (show w.heap.size ≤ gq by have hx := LTS.out; omega) (.bool sq) (.slice mq kq cq)) (And.intro (HF.out.2.1.other (C := gq) (by have hx := LTS.out; omega) (.bool sq) (.slice mq kq cq)) (And.intro (HF.out.2.2.1.other (C := gq) (by have hx := LTS.out; omega) (.bool sq) (.slice mq kq cq)) (And.intro (HF.out.2.2.2.1.other (C := gq) (by have hx := LTS.out; omega) (.bool sq) (.slice mq kq cq)) (And.intro (HF.out.2.2.2.2.1.other (C := gq) (by have hx := LTS.out; omega) (.bool sq) (.slice mq kq cq)) (And.intro (BXq.out.keeps (by simp) (by simp) (.bool sq) (.slice mq kq cq) _ _ HF.out.2.2.2.2.2.1) (BXq.out.keeps (by simp) (by simp) (.bool sq) (.slice mq kq cq) _ _ HF.out.2.2.2.2.2.2)))))))
          replace TQ := hide (TQ.out.keep (BXq.out.keeps (by simp) (by simp) (.bool sq) (.slice mq kq cq)))
          replace TR := hide (TR.out.keep (BXq.out.keeps (by simp) (by simp) (.bool sq) (.slice mq kq cq)))
          replace BXr := hide (BXr.out.other (C := gq) (by have hx := LTS.out; omega) (.bool sq) (.slice mq kq cq))
          replace BXq := hide (BXq.out.put (.bool sq) (.slice mq kq cq))
          refine hK _ _ (fun _ => HF'.out) ?_
          clear hK K HF hc0 hf0 hc1 hf1
          have HF := hide HF'.out
          clear HF'
          generalize ((u2.setCell ⟨gq, 0, none⟩ (.bool sq)).setCell ⟨gq, 1, none⟩ (.slice mq kq cq)) = ws1 at *
          refine Calm.one (i := 14) (l' := #[true, true, true, true, true, true, true, true, true, true, true, true, true, true, true]) (by kernel_rfl) rfl rfl rfl fun K hK => ?_
          have hc0 := BXr.out.cell0
          have hc1 := BXr.out.cell1
          have hf0 := BXr.out.free 0
          have hf1 := BXr.out.free 1
          go_simp
          have HF' := hide (And.intro (below_put HF.out.1 (show w.heap.size ≤ gr by have hx := LTS.out; omega) (.bool sr) (.slice mr kr cr)) (And.intro (HF.out.2.1.other (C := gr) (by have hx := LTS.out; omega) (.bool sr) (.slice mr kr cr)) (And.intro (HF.out.2.2.1.other (C := gr) (by have hx := LTS.out; omega) (.bool sr) (.slice mr kr cr)) (And.intro (HF.out.2.2.2.1.other (C := gr) (by have hx := LTS.out; omega) (.bool sr) (.slice mr kr cr)) (And.intro (HF.out.2.2.2.2.1.other (C := gr) (by have hx := LTS.out; omega) (.bool sr) (.slice mr kr cr)) (And.intro (BXr.out.keeps (by simp) (by simp) (.bool sr) (.slice mr kr cr) _ _ HF.out.2.2.2.2.2.1) (BXr.out.keeps (by simp) (by simp) (.bool sr) (.slice mr kr cr) _ _ HF.out.2.2.2.2.2.2)))))))
          replace TQ := hide (TQ.out.keep (BXr.out.keeps (by simp) (by simp) (.bool sr) (.slice mr kr cr)))
          replace TR := hide (TR.out.keep (BXr.out.keeps (by simp) (by simp) (.bool sr) (.slice mr kr cr)))
          replace BXq := hide (BXq.out.other (C := gr) (by have hx := LTS.out; omega) (.bool sr) (.slice mr kr cr))
          replace BXr := hide (BXr.out.put (.bool sr) (.slice mr kr cr))
          refine hK _ _ (fun _ => HF'.out) ?_
          clear hK K HF hc0 hf0 hc1 hf1
          have HF := hide HF'.out
          clear HF'
          generalize ((ws1.setCell ⟨gr, 0, none⟩ (.bool sr)).setCell ⟨gr, 1, none⟩ (.slice mr kr cr)) = ws2 at *
          refine Calm.done (by kernel_rfl) ?_
          go_wp2
          go_meet
          case rel => exact ⟨gq, gr, sq, mq, kq, cq, sr, mr, kr, cr, rfl, rfl, LTS.out, HF.out.1, HF.out.2.1, HF.out.2.2.1, HF.out.2.2.2.1, HF.out.2.2.2.2.1, BXq.out, BXr.out, TQ.out, TR.out⟩
      · go_simp
        have al := below_alloc u1 (.cells #[.bool false, .slice none 0 0] 30)
        have HF' := hide (And.intro (HF.out.1.trans ((al).mono HF.out.1.size)) (And.intro (HF.out.2.1.step (al)) (And.intro (HF.out.2.2.1.step (al)) (And.intro (HF.out.2.2.2.1.step (al)) (And.intro (HF.out.2.2.2.2.1.step (al)) (And.intro (HF.out.2.2.2.2.2.1.below (al)) (HF.out.2.2.2.2.2.2.below (al))))))))
        have BXr := hide (Box2.new u1 30 (.bool false) (.slice none 0 0))
        replace TQ := hide (TQ.out.below (al))
        have LT1r := hide (HF.out.2.1.lt)
        have LT2r := hide (HF.out.2.2.1.lt)
        have LT3r := hide (HF.out.2.2.2.1.lt)
        have LT4r := hide (HF.out.2.2.2.2.1.lt)
        have GEr := hide (HF.out.1.size)
        refine hK _ _ (fun _ => HF'.out) ?_
        clear hK K HF al
        have HF := hide HF'.out
        clear HF'
        generalize u1.alloc (.cells #[.bool false, .slice none 0 0] 30) = wzr at *
        generalize u1.heap.size = gr at *
        refine Calm.two (i := 10) (j := 11) (l := #[true, true, true, true, true, true, true, true, true, true, true, false, true, false, false]) (l' := #[true, true, true, true, true, true, true, true, true, true, false, true, true, false, false]) (by kernel_rfl) rfl rfl rfl rfl rfl rfl (fun K hK => ?_) (fun K hK => ?_)
        · go_simp
          refine (rnorm2_any _ _ (D.lim (n1 % n2)) _ HF.out.2.2.2.2.2.2 (D.ok_lim _)).mono ?_
          rintro e u2 ⟨v, rfl, n, hb⟩
          rw [D.val_lim] at n
          obtain ⟨sr, mr, kr, cr, rfl, n⟩ := n.cells
          replace TQ := hide (TQ.out.below (hb))
          replace BXr := hide (BXr.out.step hb)
          have HF' := hide (And.intro (HF.out.1.trans ((hb).mono HF.out.1.size)) (And.intro (HF.out.2.1.step (hb)) (And.intro (HF.out.2.2.1.step (hb)) (And.intro (HF.out.2.2.2.1.step (hb)) (And.intro (HF.out.2.2.2.2.1.step (hb)) (And.intro (HF.out.2.2.2.2.2.1.below (hb)) (HF.out.2.2.2.2.2.2.below (hb))))))))
          have TR := hide (n)
          refine hK _ _ (fun _ => HF'.out) ?_
          clear hK K HF hb n
          have HF := hide HF'.out
          clear HF'
          refine Calm.one (i := 11) (l' := #[true, true, true, true, true, true, true, true, true, true, true, true, true, false, false]) (by kernel_rfl) rfl rfl rfl fun K hK => ?_
          go_simp
          have al := below_alloc u2 (.cells #[.bool false, .slice none 0 0] 30)
          have HF' := hide (And.intro (HF.out.1.trans ((al).mono HF.out.1.size)) (And.intro (HF.out.2.1.step (al)) (And.intro (HF.out.2.2.1.step (al)) (And.intro (HF.out.2.2.2.1.step (al)) (And.intro (HF.out.2.2.2.2.1.step (al)) (And.intro (HF.out.2.2.2.2.2.1.below (al)) (HF.out.2.2.2.2.2.2.below (al))))))))
          have BXq := hide (Box2.new u2 30 (.bool false) (.slice none 0 0))
          replace TQ := hide (TQ.out.below (al))
          replace TR := hide (TR.out.below (al))
          have LTrq := hide (BXr.out.lt)
          replace BXr := hide (BXr.out.step al)
          have LT1q := hide (HF.out.2.1.lt)
          have LT2q := hide (HF.out.2.2.1.lt)
          have LT3q := hide (HF.out.2.2.2.1.lt)
          have LT4q := hide (HF.out.2.2.2.2.1.lt)
          have GEq := hide (HF.out.1.size)
          refine hK _ _ (fun _ => HF'.out) ?_
          clear hK K HF al
          have HF := hide HF'.out
          clear HF'
          generalize u2.alloc (.cells #[.bool false, .slice none 0 0] 30) = wzq at *
          generalize u2.heap.size = gq at *
          refine Calm.one (i := 13) (l' := #[true, true, true, true, true, true, true, true, true, true, true, true, true, true, false]) (by kernel_rfl) rfl rfl rfl fun K hK => ?_
          have LTS := hide (And.intro LT1q.out (And.intro LT2q.out (And.intro LT3q.out (And.intro LT4q.out (And.intro LT1r.out (And.intro LT2r.out (And.intro LT3r.out (And.intro LT4r.out (show gq ≠ gr by first | exact Nat.ne_of_lt LTqr.out | exact Nat.ne_of_gt LTrq.out)))))))))
          have hc0 := BXq.out.cell0
          have hc1 := BXq.out.cell1
          have hf0 := BXq.out.free 0
          have hf1 := BXq.out.free 1
          go_simp
          have HF' := hide (And.intro (below_put HF.out.1 (show w.heap.size ≤ gq by have hx := LTS.out; omega) (.bool sq) (.slice mq kq cq)) (And.intro (HF.out.2.1.other (C := gq) (by have hx := LTS.out; omega) (.bool sq) (.slice mq kq cq)) (And.intro (HF.out.2.2.1.other (C := gq) (by have hx := LTS.out; omega) (.bool sq) (.slice mq kq cq)) (And.intro (HF.out.2.2.2.1.other (C := gq) (by have hx := LTS.out; omega) (.bool sq) (.slice mq kq cq)) (And.intro (HF.out.2.2.2.2.1.other (C := gq) (by have hx := LTS.out; omega) (.bool sq) (.slice mq kq cq)) (And.intro (BXq.out.keeps (by simp) (by simp) (.bool sq) (.slice mq kq cq) _ _ HF.out.2.2.2.2.2.1) (BXq.out.keeps (by simp) (by simp) (.bool sq) (.slice mq kq cq) _ _ HF.out.2.2.2.2.2.2)))))))
          replace TQ := hide (TQ.out.keep (BXq.out.keeps (by simp) (by simp) (.bool sq) (.slice mq kq cq)))
          replace TR := hide (TR.out.keep (BXq.out.keeps (by simp) (by simp) (.bool sq) (.slice mq kq cq)))
          replace BXr := hide (BXr.out.other (C := gq) (by have hx := LTS.out; omega) (.bool sq) (.slice mq kq cq))
          replace BXq := hide (BXq.out.put (.bool sq) (.slice mq kq cq))
          refine hK _ _ (fun _ => HF'.out) ?_
          clear hK K HF hc0 hf0 hc1 hf1
          have HF := hide HF'.out
          clear HF'
          generalize ((wzq.setCell ⟨gq, 0, none⟩ (.bool sq)).setCell ⟨gq, 1, none⟩ (.slice mq kq cq)) = ws1 at *
          refine Calm.one (i := 14) (l' := #[true, true, true, true, true, true, true, true, true, true, true, true, true, true, true]) (by kernel_rfl) rfl rfl rfl fun K hK => ?_
          have hc0 := BXr.out.cell0
          have hc1 := BXr.out.cell1
          have hf0 := BXr.out.free 0
          have hf1 := BXr.out.free 1
          go_simp
          have HF' := hide (And.intro (below_put HF.out.1 (show w.heap.size ≤ gr by have hx := LTS.out; omega) (.bool sr) (.slice mr kr cr)) (And.intro (HF.out.2.1.other (C := gr) (by have hx := LTS.out; omega) (.bool sr) (.slice mr kr cr)) (And.intro (HF.out.2.2.1.other (C := gr) (by have hx := LTS.out; omega) (.bool sr) (.slice mr kr cr)) (And.intro (HF.out.2.2.2.1.other (C := gr) (by have hx := LTS.out; omega) (.bool sr) (.slice mr kr cr)) (And.intro (HF.out.2.2.2.2.1.other (C := gr) (by have hx := LTS.out; omega) (.bool sr) (.slice mr kr cr)) (And.intro (BXr.out.keeps (by simp) (by simp) (.bool sr) (.slice mr kr cr) _ _ HF.out.2.2.2.2.2.1) (BXr.out.keeps (by simp) (by simp) (.bool sr) (.slice mr kr cr) _ _ HF.out.2.2.2.2.2.2)))))))
          replace TQ := hide (TQ.out.keep (BXr.out.keeps (by simp) (by simp) (.bool sr) (.slice mr kr cr)))
          replace TR := hide (TR.out.keep (BXr.out.keeps (by simp) (by simp) (.bool sr) (.slice mr kr cr)))
          replace BXq := hide (BXq.out.other (C := gr) (by have hx := LTS.out; omega) (.bool sr) (.slice mr kr cr))
          replace BXr := hide (BXr.out.put (.bool sr) (.slice mr kr cr))
          refine hK _ _ (fun _ => HF'.out) ?_
          clear hK K HF hc0 hf0 hc1 hf1
          have HF := hide HF'.out
          clear HF'
          generalize ((ws1.setCell ⟨gr, 0, none⟩ (.bool sr)).setCell ⟨gr, 1, none⟩ (.slice mr kr cr)) = ws2 at *
          refine Calm.done (by kernel_rfl) ?_
          go_wp2
          go_meet
          case rel => exact ⟨gq, gr, sq, mq, kq, cq, sr, mr, kr, cr, rfl, rfl, LTS.out, HF.out.1, HF.out.2.1, HF.out.2.2.1, HF.out.2.2.2.1, HF.out.2.2.2.2.1, BXq.out, BXr.out, TQ.out, TR.out⟩
        · go_simp
          have al := below_alloc wzr (.cells #[.bool false, .slice none 0 0] 30)
          have HF' := hide (And.intro (HF.out.1.trans ((al).mono HF.out.1.size)) (And.intro (HF.out.2.1.step (al)) (And.intro (HF.out.2.2.1.step (al)) (And.intro (HF.out.2.2.2.1.step (al)) (And.intro (HF.out.2.2.2.2.1.step (al)) (And.intro (HF.out.2.2.2.2.2.1.below (al)) (HF.out.2.2.2.2.2.2.below (al))))))))
          have BXq := hide (Box2.new wzr 30 (.bool false) (.slice none 0 0))
          replace TQ := hide (TQ.out.below (al))
          have LTrq := hide (BXr.out.lt)
          replace BXr := hide (BXr.out.step al)
          have LT1q := hide (HF.out.2.1.lt)
          have LT2q := hide (HF.out.2.2.1.lt)
          have LT3q := hide (HF.out.2.2.2.1.lt)
          have LT4q := hide (HF.out.2.2.2.2.1.lt)
          have GEq := hide (HF.out.1.size)
          refine hK _ _ (fun _ => HF'.out) ?_
          clear hK K HF al
          have HF := hide HF'.out
          clear HF'
          generalize wzr.alloc (.cells #[.bool false, .slice none 0 0] 30) = wzq at *
          generalize wzr.heap.size = gq at *
          refine Calm.one (i := 10) (l' := #[true, true, true, true, true, true, true, true, true, true, true, true, true, false, false]) (by kernel_rfl) rfl rfl rfl fun K hK => ?_
          go_simp
          refine (rnorm2_any _ _ (D.lim (n1 % n2)) _ HF.out.2.2.2.2.2.2 (D.ok_lim _)).mono ?_
          rintro e u2 ⟨v, rfl, n, hb⟩
          rw [D.val_lim] at n
          obtain ⟨sr, mr, kr, cr, rfl, n⟩ := n.cells
          replace TQ := hide (TQ.out.below (hb))
          replace BXr := hide (BXr.out.step hb)
          replace BXq := hide (BXq.out.step hb)
          have HF' := hide (And.intro (HF.out.1.trans ((hb).mono HF.out.1.size)) (And.intro (HF.out.2.1.step (hb)) (And.intro (HF.out.2.2.1.step (hb)) (And.intro (HF.out.2.2.2.1.step (hb)) (And.intro (HF.out.2.2.2.2.1.step (hb)) (And.intro (HF.out.2.2.2.2.2.1.below (hb)) (HF.out.2.2.2.2.2.2.below (hb))))))))
          have TR := hide (n)
          refine hK _ _ (fun _ => HF'.out) ?_
          clear hK K HF hb n
          have HF := hide HF'.out
          clear HF'
          refine Calm.one (i := 13) (l' := #[true, true, true, true, true, true, true, true, true, true, true, true, true, true, false]) (by kernel_rfl) rfl rfl rfl fun K hK => ?_
          have LTS := hide (And.intro LT1q.out (And.intro LT2q.out (And.intro LT3q.out (And.intro LT4q.out (And.intro LT1r.out (And.intro LT2r.out (And.intro LT3r.out (And.intro LT4r.out (show gq ≠ gr by first | exact Nat.ne_of_lt LTqr.out | exact Nat.ne_of_gt LTrq.out)))))))))
          have hc0 := BXq.out.cell0
          have hc1 := BXq.out.cell1
          have hf0 := BXq.out.free 0
          have hf1 := BXq.out.free 1
          go_simp
          have HF' := hide (And.intro (below_put HF.out.1 (show w.heap.size ≤ gq by have hx := LTS.out; omega) (.bool sq) (.slice mq kq cq)) (And.intro (HF.out.2.1.other (C := gq) (by have hx := LTS.out; omega) (.bool sq) (.slice mq kq cq)) (And.intro (HF.out.2.2.1.other (C := gq) (by have hx := LTS.out; omega) (.bool sq) (.slice mq kq cq)) (And.intro (HF.out.2.2.2.1.other (C := gq) (by have hx := LTS.out; omega) (.bool sq) (.slice mq kq cq)) (And.intro (HF.out.2.2.2.2.1.other (C := gq) (by have hx := LTS.out; omega) (.bool sq) (.slice mq kq cq)) (And.intro (BXq.out.keeps (by simp) (by simp) (.bool sq) (.slice mq kq cq) _ _ HF.out.2.2.2.2.2.1) (BXq.out.keeps (by simp) (by simp) (.bool sq) (.slice mq kq cq) _ _ HF.out.2.2.2.2.2.2)))))))
          replace TQ := hide (TQ.out.keep (BXq.out.keeps (by simp) (by simp) (.bool sq) (.slice mq kq cq)))
          replace TR := hide (TR.out.keep (BXq.out.keeps (by simp) (by simp) (.bool sq) (.slice mq kq cq)))
          replace BXr := hide (BXr.out.other (C := gq) (by have hx := LTS.out; omega) (.bool sq) (.slice mq kq cq))
          replace BXq := hide (BXq.out.put (.bool sq) (.slice mq kq cq))
          refine hK _ _ (fun _ => HF'.out) ?_
          clear hK K HF hc0 hf0 hc1 hf1
          have HF := hide HF'.out
          clear HF'
          generalize ((u2.setCell ⟨gq, 0, none⟩ (.bool sq)).setCell ⟨gq, 1, none⟩ (.slice mq kq cq)) = ws1 at *
          refine Calm.one (i := 14) (l' := #[true, true, true, true, true, true, true, true, true, true, true, true, true, true, true]) (by kernel_rfl) rfl rfl rfl fun K hK => ?_
          have hc0 := BXr.out.cell0
          have hc1 := BXr.out.cell1
          have hf0 := BXr.out.free 0
          have hf1 := BXr.out.free 1
          go_simp
          have HF' := hide (And.intro (below_put HF.out.1 (show w.heap.size ≤ gr by have hx := LTS.out; omega) (.bool sr) (.slice mr kr cr)) (And.intro (HF.out.2.1.other (C := gr) (by have hx := LTS.out; omega) (.bool sr) (.slice mr kr cr)) (And.intro (HF.out.2.2.1.other (C := gr) (by have hx := LTS.out; omega) (.bool sr) (.slice mr kr cr)) (And.intro (HF.out.2.2.2.1.other (C := gr) (by have hx := LTS.out; omega) (.bool sr) (.slice mr kr cr)) (And.intro (HF.out.2.2.2.2.1.other (C := gr) (by have hx := LTS.out; omega) (.bool sr) (.slice mr kr cr)) (And.intro (BXr.out.keeps (by simp) (by simp) (.bool sr) (.slice mr kr cr) _ _ HF.out.2.2.2.2.2.1) (BXr.out.keeps (by simp) (by simp) (.bool sr) (.slice mr kr cr) _ _ HF.out.2.2.2.2.2.2)))))))
          replace TQ := hide (TQ.out.keep (BXr.out.keeps (by simp) (by simp) (.bool sr) (.slice mr kr cr)))
          replace TR := hide (TR.out.keep (BXr.out.keeps (by simp) (by simp) (.bool sr) (.slice mr kr cr)))
          replace BXq := hide (BXq.out.other (C := gr) (by have hx := LTS.out; omega) (.bool sr) (.slice mr kr cr))
          replace BXr := hide (BXr.out.put (.bool sr) (.slice mr kr cr))
          refine hK _ _ (fun _ => HF'.out) ?_
          clear hK K HF hc0 hf0 hc1 hf1
          have HF := hide HF'.out
          clear HF'
          generalize ((ws1.setCell ⟨gr, 0, none⟩ (.bool sr)).setCell ⟨gr, 1, none⟩ (.slice mr kr cr)) = ws2 at *
          refine Calm.done (by kernel_rfl) ?_
          go_wp2
          go_meet
          case rel => exact ⟨gq, gr, sq, mq, kq, cq, sr, mr, kr, cr, rfl, rfl, LTS.out, HF.out.1, HF.out.2.1, HF.out.2.2.1, HF.out.2.2.2.1, HF.out.2.2.2.2.1, BXq.out, BXr.out, TQ.out, TR.out⟩
    · go_simp
      have al := below_alloc w1d (.cells #[.bool false, .slice none 0 0] 30)
      have HF' := hide (And.intro (HF.out.1.trans ((al).mono HF.out.1.size)) (And.intro (HF.out.2.1.step (al)) (And.intro (HF.out.2.2.1.step (al)) (And.intro (HF.out.2.2.2.1.step (al)) (And.intro (HF.out.2.2.2.2.1.step (al)) (And.intro (HF.out.2.2.2.2.2.1.below (al)) (HF.out.2.2.2.2.2.2.below (al))))))))
      have BXq := hide (Box2.new w1d 30 (.bool false) (.slice none 0 0))
      have LT1q := hide (HF.out.2.1.lt)
      have LT2q := hide (HF.out.2.2.1.lt)
      have LT3q := hide (HF.out.2.2.2.1.lt)
      have LT4q := hide (HF.out.2.2.2.2.1.lt)
      have GEq := hide (HF.out.1.size)
      refine hK _ _ (fun _ => HF'.out) ?_
      clear hK K HF al
      have HF := hide HF'.out
      clear HF'
      generalize w1d.alloc (.cells #[.bool false, .slice none 0 0] 30) = wzq at *
      generalize w1d.heap.size = gq at *
      refine Calm.two (i := 6) (j := 12) (l := #[true, true, true, true, true, true, true, true, true, true, false, true, false, false, false]) (l' := #[true, true, true, true, true, true, false, true, true, true, false, true, true, false, false]) (by kernel_rfl) rfl rfl rfl rfl rfl rfl (fun K hK => ?_) (fun K hK => ?_)
      · go_simp
        refine (rnorm2_any _ _ (D.lim (n1 / n2)) _ HF.out.2.2.2.2.2.1 (D.ok_lim _)).mono ?_
        rintro e u1 ⟨v, rfl, n, hb⟩
        rw [D.val_lim] at n
        obtain ⟨sq, mq, kq, cq, rfl, n⟩ := n.cells
        replace BXq := hide (BXq.out.step hb)
        have HF' := hide (And.intro (HF.out.1.trans ((hb).mono HF.out.1.size)) (And.intro (HF.out.2.1.step (hb)) (And.intro (HF.out.2.2.1.step (hb)) (And.intro (HF.out.2.2.2.1.step (hb)) (And.intro (HF.out.2.2.2.2.1.step (hb)) (And.intro (HF.out.2.2.2.2.2.1.below (hb)) (HF.out.2.2.2.2.2.2.below (hb))))))))
        have TQ := hide (n)
        refine hK _ _ (fun _ => HF'.out) ?_
        clear hK K HF hb n
        have HF := hide HF'.out
        clear HF'
        refine Calm.two (i := 10) (j := 12) (l := #[true, true, true, true, true, true, true, true, true, true, true, true, false, false, false]) (l' := #[true, true, true, true, true, true, true, true, true, true, false, true, true, false, false]) (by kernel_rfl) rfl rfl rfl rfl rfl rfl (fun K hK => ?_) (fun K hK => ?_)
        · go_simp
          refine (rnorm2_any _ _ (D.lim (n1 % n2)) _ HF.out.2.2.2.2.2.2 (D.ok_lim _)).mono ?_
          rintro e u2 ⟨v, rfl, n, hb⟩
          rw [D.val_lim] at n
          obtain ⟨sr, mr, kr, cr, rfl, n⟩ := n.cells
          replace TQ := hide (TQ.out.below (hb))
          replace BXq := hide (BXq.out.step hb)
          have HF' := hide (And.intro (HF.out.1.trans ((hb).mono HF.out.1.size)) (And.intro (HF.out.2.1.step (hb)) (And.intro (HF.out.2.2.1.step (hb)) (And.intro (HF.out.2.2.2.1.step (hb)) (And.intro (HF.out.2.2.2.2.1.step (hb)) (And.intro (HF.out.2.2.2.2.2.1.below (hb)) (HF.out.2.2.2.2.2.2.below (hb))))))))
          have TR := hide (n)
          refine hK _ _ (fun _ => HF'.out) ?_
          clear hK K HF hb n
          have HF := hide HF'.out
          clear HF'
          refine Calm.one (i := 12) (l' := #[true, true, true, true, true, true, true, true, true, true, true, true, true, false, false]) (by kernel_rfl) rfl rfl rfl fun K hK => ?_
          go_simp
          have al := below_alloc u2 (.cells #[.bool false, .slice none 0 0] 30)
          have HF' := hide (And.intro (HF.out.1.trans ((al).mono HF.out.1.size)) (And.intro (HF.out.2.1.step (al)) (And.intro (HF.out.2.2.1.step (al)) (And.intro (HF.out.2.2.2.1.step (al)) (And.intro (HF.out.2.2.2.2.1.step (al)) (And.intro (HF.out.2.2.2.2.2.1.below (al)) (HF.out.2.2.2.2.2.2.below (al))))))))
          have BXr := hide (Box2.new u2 30 (.bool false) (.slice none 0 0))
          replace TQ := hide (TQ.out.below (al))
          replace TR := hide (TR.out.below (al))
          have LTqr := hide (BXq.out.lt)
          replace BXq := hide (BXq.out.step al)
          have LT1r := hide (HF.out.2.1.lt)
          have LT2r := hide (HF.out.2.2.1.lt)
          have LT3r := hide (HF.out.2.2.2.1.lt)
          have LT4r := hide (HF.out.2.2.2.2.1.lt)
          have GEr := hide (HF.out.1.size)
          refine hK _ _ (fun _ => HF'.out) ?_
          clear hK K HF al
          have HF := hide HF'.out
          clear HF'
          generalize u2.alloc (.cells #[.bool false, .slice none 0 0] 30) = wzr at *
          generalize u2.heap.size = gr at *
          refine Calm.one (i := 13) (l' := #[true, true, true, true, true, true, true, true, true, true, true, true, true, true, false]) (by kernel_rfl) rfl rfl rfl fun K hK => ?_
          have LTS := hide (And.intro LT1q.out (And.intro LT2q.out (And.intro LT3q.out (And.intro LT4q.out (And.intro LT1r.out (And.intro LT2r.out (And.intro LT3r.out (And.intro LT4r.out (show gq ≠ gr by first | exact Nat.ne_of_lt LTqr.out | exact Nat.ne_of_gt LTrq.out)))))))))
          have hc0 := BXq.out.cell0
          have hc1 := BXq.out.cell1
          have hf0 := BXq.out.free 0
          have hf1 := BXq.out.free 1
          go_simp
          have HF' := hide (And.intro (below_put HF.out.1 (show w.heap.size ≤ gq by have hx := LTS.out; omega) (.bool sq) (.slice mq kq cq)) (And.intro (HF.out.2.1.other (C := gq) (by have hx := LTS.out; omega) (.bool sq) (.slice mq kq cq)) (And.intro (HF.out.2.2.1.other (C := gq) (by have hx := LTS.out; omega) (.bool sq) (.slice mq kq cq)) (And.intro (HF.out.2.2.2.1.other (C := gq) (by have hx := LTS.out; omega) (.bool sq) (.slice mq kq cq)) (And.intro (HF.out.2.2.2.2.1.other (C := gq) (by have hx := LTS.out; omega) (.bool sq) (.slice mq kq cq)) (And.intro (BXq.out.keeps (by simp) (by simp) (.bool sq) (.slice mq kq cq) _ _ HF.out.2.2.2.2.2.1) (BXq.out.keeps (by simp) (by simp) (.bool sq) (.slice mq kq cq) _ _ HF.out.2.2.2.2.2.2)))))))
          replace TQ := hide (TQ.out.keep (BXq.out.keeps (by simp) (by simp) (.bool sq) (.slice mq kq cq)))
          replace TR := hide (TR.out.keep (BXq.out.keeps (by simp) (by simp) (.bool sq) (.slice mq kq cq)))
          replace BXr := hide (BXr.out.other (C := gq) (by have hx := LTS.out; omega) (.bool sq) (.slice mq kq cq))
          replace BXq := hide (BXq.out.put (.bool sq) (.slice mq kq cq))
          refine hK _ _ (fun _ => HF'.out) ?_
          clear hK K HF hc0 hf0 hc1 hf1
          have HF := hide HF'.out
          clear HF'
          generalize ((wzr.setCell ⟨gq, 0, none⟩ (.bool sq)).setCell ⟨gq, 1, none⟩ (.slice mq kq cq)) = ws1 at *
          refine Calm.one (i := 14) (l' := #[true, true, true, true, true, true, true, true, true, true, true, true, true, true, true]) (by kernel_rfl) rfl rfl rfl fun K hK => ?_
          have hc0 := BXr.out.cell0
          have hc1 := BXr.out.cell1
          have hf0 := BXr.out.free 0
          have hf1 := BXr.out.free 1
          go_simp
          have HF' := hide (And.intro (below_put HF.out.1 (show w.heap.size ≤ gr by have hx := LTS.out; omega) (.bool sr) (.slice mr kr cr)) (And.intro (HF.out.2.1.other (C := gr) (by have hx := LTS.out; omega) (.bool sr) (.slice mr kr cr)) (And.intro (HF.out.2.2.1.other (C := gr) (by have hx := LTS.out; omega) (.bool sr) (.slice mr kr cr)) (And.intro (HF.out.2.2.2.1.other (C := gr) (by have hx := LTS.out; omega) (.bool sr) (.slice mr kr cr)) (And.intro (HF.out.2.2.2.2.1.other (C := gr) (by have hx := LTS.out; omega) (.bool sr) (.slice mr kr cr)) (And.intro (BXr.out.keeps (by simp) (by simp) (.bool sr) (.slice mr kr cr) _ _ HF.out.2.2.2.2.2.1) (BXr.out.keeps (by simp) (by simp) (.bool sr) (.slice mr kr cr) _ _ HF.out.2.2.2.2.2.2)))))))
          replace TQ := hide (TQ.out.keep (BXr.out.keeps (by simp) (by simp) (.bool sr) (.slice mr kr cr)))
          replace TR := hide (TR.out.keep (BXr.out.keeps (by simp) (by simp) (.bool sr) (.slice mr kr cr)))
          replace BXq := hide (BXq.out.other (C := gr) (by have hx := LTS.out; omega) (.bool sr) (.slice mr kr cr))
          replace BXr := hide (BXr.out.put (.bool sr) (.slice mr kr cr))
          refine hK _ _ (fun _ => HF'.out) ?_
          clear hK K HF hc0 hf0 hc1 hf1
          have HF := hide HF'.out
          clear HF'
          generalize ((ws1.setCell ⟨gr, 0, none⟩ (.bool sr)).setCell ⟨gr, 1, none⟩ (.slice mr kr cr)) = ws2 at *
          refine Calm.done (by kernel_rfl) ?_
          go_wp2
          go_meet
          case rel => exact ⟨gq, gr, sq, mq, kq, cq, sr, mr, kr, cr, rfl, rfl, LTS.out, HF.out.1, HF.out.2.1, HF.out.2.2.1, HF.out.2.2.2.1, HF.out.2.2.2.2.1, BXq.out, BXr.out, TQ.out, TR.out⟩
        · go_simp
          have al := below_alloc u1 (.cells #[.bool false, .slice none 0 0] 30)
          have HF' := hide (And.intro (HF.out.1.trans ((al).mono HF.out.1.size)) (And.intro (HF.out.2.1.step (al)) (And.intro (HF.out.2.2.1.step (al)) (And.intro (HF.out.2.2.2.1.step (al)) (And.intro (HF.out.2.2.2.2.1.step (al)) (And.intro (HF.out.2.2.2.2.2.1.below (al)) (HF.out.2.2.2.2.2.2.below (al))))))))
          have BXr := hide (Box2.new u1 30 (.bool false) (.slice none 0 0))
          replace TQ := hide (TQ.out.below (al))
          have LTqr := hide (BXq.out.lt)
          replace BXq := hide (BXq.out.step al)
          have LT1r := hide (HF.out.2.1.lt)
          have LT2r := hide (HF.out.2.2.1.lt)
          have LT3r := hide (HF.out.2.2.2.1.lt)
          have LT4r := hide (HF.out.2.2.2.2.1.lt)
          have GEr := hide (HF.out.1.size)
          refine hK _ _ (fun _ => HF'.out) ?_
          clear hK K HF al
          have HF := hide HF'.out
          clear HF'
          generalize u1.alloc (.cells #[.bool false, .slice none 0 0] 30) = wzr at *
          generalize u1.heap.size = gr at *
          refine Calm.one (i := 10) (l' := #[true, true, true, true, true, true, true, true, true, true, true, true, true, false, false]) (by kernel_rfl) rfl rfl rfl fun K hK => ?_
          go_simp
          refine (rnorm2_any _ _ (D.lim (n1 % n2)) _ HF.out.2.2.2.2.2.2 (D.ok_lim _)).mono ?_
          rintro e u2 ⟨v, rfl, n, hb⟩
          rw [D.val_lim] at n
          obtain ⟨sr, mr, kr, cr, rfl, n⟩ := n.cells
          replace TQ := hide (TQ.out.below (hb))
          replace BXq := hide (BXq.out.step hb)
          replace BXr := hide (BXr.out.step hb)
          have HF' := hide (And.intro (HF.out.1.trans ((hb).mono HF.out.1.size)) (And.intro (HF.out.2.1.step (hb)) (And.intro (HF.out.2.2.1.step (hb)) (And.intro (HF.out.2.2.2.1.step (hb)) (And.intro (HF.out.2.2.2.2.1.step (hb)) (And.intro (HF.out.2.2.2.2.2.1.below (hb)) (HF.out.2.2.2.2.2.2.below (hb))))))))
          have TR := hide (n)
          refine hK _ _ (fun _ => HF'.out) ?_
          clear hK K HF hb n
          have HF := hide HF'.out
          clear HF'
          refine Calm.one (i := 13) (l' := #[true, true, true, true, true, true, true, true, true, true, true, true, true, true, false]) (by kernel_rfl) rfl rfl rfl fun K hK => ?_
          have LTS := hide (And.intro LT1q.out (And.intro LT2q.out (And.intro LT3q.out (And.intro LT4q.out (And.intro LT1r.out (And.intro LT2r.out (And.intro LT3r.out (And.intro LT4r.out (show gq ≠ gr by first | exact Nat.ne_of_lt LTqr.out | exact Nat.ne_of_gt LTrq.out)))))))))
          have hc0 := BXq.out.cell0
          have hc1 := BXq.out.cell1
          have hf0 := BXq.out.free 0
          have hf1 := BXq.out.free 1
          go_simp
          have HF' := hide (And.intro (below_put HF.out.1 (show w.heap.size ≤ gq by have hx := LTS.out; omega) (.bool sq) (.slice mq kq cq)) (And.intro (HF.out.2.1.other (C := gq) (by have hx := LTS.out; omega) (.bool sq) (.slice mq kq cq)) (And.intro (HF.out.2.2.1.other (C := gq) (by have hx := LTS.out; omega) (.bool sq) (.slice mq kq cq)) (And.intro (HF.out.2.2.2.1.other (C := gq) (by have hx := LTS.out; omega) (.bool sq) (.slice mq kq cq)) (And.intro (HF.out.2.2.2.2.1.other (C := gq) (by have hx := LTS.out; omega) (.bool sq) (.slice mq kq cq)) (And.intro (BXq.out.keeps (by simp) (by simp) (.bool sq) (.slice mq kq cq) _ _ HF.out.2.2.2.2.2.1) (BXq.out.keeps (by simp) (by simp) (.bool sq) (.slice mq kq cq) _ _ HF.out.2.2.2.2.2.2)))))))
          replace TQ := hide (TQ.out.keep (BXq.out.keeps (by simp) (by simp) (.bool sq) (.slice mq kq cq)))
          replace TR := hide (TR.out.keep (BXq.out.keeps (by simp) (by simp) (.bool sq) (.slice mq kq cq)))
          replace BXr := hide (BXr.out.other (C := gq) (by have hx := LTS.out; omega) (.bool sq) (.slice mq kq cq))
          replace BXq := hide (BXq.out.put (.bool sq) (.slice mq kq cq))
          refine hK _ _ (fun _ => HF'.out) ?_
          clear hK K HF hc0 hf0 hc1 hf1
          have HF := hide HF'.out
          clear HF'
          generalize ((u2.setCell ⟨gq, 0, none⟩ (.bool sq)).setCell ⟨gq, 1, none⟩ (.slice mq kq cq)) = ws1 at *
          refine Calm.one (i := 14) (l' := #[true, true, true, true, true, true, true, true, true, true, true, true, true, true, true]) (by kernel_rfl) rfl rfl rfl fun K hK => ?_
          have hc0 := BXr.out.cell0
          have hc1 := BXr.out.cell1
          have hf0 := BXr.out.free 0
          have hf1 := BXr.out.free 1
          go_simp
          have HF' := hide (And.intro (below_put HF.out.1 (show w.heap.size ≤ gr by have hx := LTS.out; omega) (.bool sr) (.slice mr kr cr)) (And.intro (HF.out.2.1.other (C := gr) (by have hx := LTS.out; omega) (.bool sr) (.slice mr kr cr)) (And.intro (HF.out.2.2.1.other (C := gr) (by have hx := LTS.out; omega) (.bool sr) (.slice mr kr cr)) (And.intro (HF.out.2.2.2.1.other (C := gr) (by have hx := LTS.out; omega) (.bool sr) (.slice mr kr cr)) (And.intro (HF.out.2.2.2.2.1.other (C := gr) (by have hx := LTS.out; omega) (.bool sr) (.slice mr kr cr)) (And.intro (BXr.out.keeps (by simp) (by simp) (.bool sr) (.slice mr kr cr) _ _ HF.out.2.2.2.2.2.1) (BXr.out.keeps (by simp) (by simp) (.bool sr) (.slice mr kr cr) _ _ HF.out.2.2.2.2.2.2)))))))
          replace TQ := hide (TQ.out.keep (BXr.out.keeps (by simp) (by simp) (.bool sr) (.slice mr kr cr)))
          replace TR := hide (TR.out.keep (BXr.out.keeps (by simp) (by simp) (.bool sr) (.slice mr kr cr)))
          replace BXq := hide (BXq.out.other (C := gr) (by have hx := LTS.out; omega) (.bool sr) (.slice mr kr cr))
          replace BXr := hide (BXr.out.put (.bool sr) (.slice mr kr cr))
          refine hK _ _ (fun _ => HF'.out) ?_
          clear hK K HF hc0 hf0 hc1 hf1
          have HF := hide HF'.out
          clear HF'
          generalize ((ws1.setCell ⟨gr, 0, none⟩ (.bool sr)).setCell ⟨gr, 1, none⟩ (.slice mr kr cr)) = ws2 at *
          refine Calm.done (by kernel_rfl) ?_
          go_wp2
          go_meet
          case rel => exact ⟨gq, gr, sq, mq, kq, cq, sr, mr, kr, cr, rfl, rfl, LTS.out, HF.out.1, HF.out.2.1, HF.out.2.2.1, HF.out.2.2.2.1, HF.out.2.2.2.2.1, BXq.out, BXr.out, TQ.out, TR.out⟩
      · go_simp
        have al := below_alloc wzq (.cells #[.bool false, .slice none 0 0] 30)
        have HF' := hide (And.intro (HF.out.1.trans ((al).mono HF.out.1.size)) (And.intro (HF.out.2.1.step (al)) (And.intro (HF.out.2.2.1.step (al)) (And.intro (HF.out.2.2.2.1.step (al)) (And.intro (HF.out.2.2.2.2.1.step (al)) (And.intro (HF.out.2.2.2.2.2.1.below (al)) (HF.out.2.2.2.2.2.2.below (al))))))))
        have BXr := hide (Box2.new wzq 30 (.bool false) (.slice none 0 0))
        have LTqr := hide (BXq.out.lt)
        replace BXq := hide (BXq.out.step al)
        have LT1r := hide (HF.out.2.1.lt)
        have LT2r := hide (HF.out.2.2.1.lt)
        have LT3r := hide (HF.out.2.2.2.1.lt)
        have LT4r := hide (HF.out.2.2.2.2.1.lt)
        have GEr := hide (HF.out.1.size)
        refine hK _ _ (fun _ => HF'.out) ?_
        clear hK K HF al
        have HF := hide HF'.out
        clear HF'
        generalize wzq.alloc (.cells #[.bool false, .slice none 0 0] 30) = wzr at *
        generalize wzq.heap.size = gr at *
        refine Calm.one (i := 6) (l' := #[true, true, true, true, true, true, true, true, true, true, false, true, true, false, false]) (by kernel_rfl) rfl rfl rfl fun K hK => ?_
        go_simp
        refine (rnorm2_any _ _ (D.lim (n1 / n2)) _ HF.out.2.2.2.2.2.1 (D.ok_lim _)).mono ?_
        rintro e u1 ⟨v, rfl, n, hb⟩
        rw [D.val_lim] at n
        obtain ⟨sq, mq, kq, cq, rfl, n⟩ := n.cells
        replace BXq := hide (BXq.out.step hb)
        replace BXr := hide (BXr.out.step hb)
        have HF' := hide (And.intro (HF.out.1.trans ((hb).mono HF.out.1.size)) (And.intro (HF.out.2.1.step (hb)) (And.intro (HF.out.2.2.1.step (hb)) (And.intro (HF.out.2.2.2.1.step (hb)) (And.intro (HF.out.2.2.2.2.1.step (hb)) (And.intro (HF.out.2.2.2.2.2.1.below (hb)) (HF.out.2.2.2.2.2.2.below (hb))))))))
        have TQ := hide (n)
        refine hK _ _ (fun _ => HF'.out) ?_
        clear hK K HF hb n
        have HF := hide HF'.out
        clear HF'
        refine Calm.one (i := 10) (l' := #[true, true, true, true, true, true, true, true, true, true, true, true, true, false, false]) (by kernel_rfl) rfl rfl rfl fun K hK => ?_
        go_simp
        refine (rnorm2_any _ _ (D.lim (n1 % n2)) _ HF.out.2.2.2.2.2.2 (D.ok_lim _)).mono ?_
        rintro e u2 ⟨v, rfl, n, hb⟩
        rw [D.val_lim] at n
        obtain ⟨sr, mr, kr, cr, rfl, n⟩ := n.cells
        replace TQ := hide (TQ.out.below (hb))
        replace BXq := hide (BXq.out.step hb)
        replace BXr := hide (BXr.out.step hb)
        have HF' := hide (And.intro (HF.out.1.trans ((hb).mono HF.out.1.size)) (And.intro (HF.out.2.1.step (hb)) (And.intro (HF.out.2.2.1.step (hb)) (And.intro (HF.out.2.2.2.1.step (hb)) (And.intro (HF.out.2.2.2.2.1.step (hb)) (And.intro (HF.out.2.2.2.2.2.1.below (hb)) (HF.out.2.2.2.2.2.2.below (hb))))))))
        have TR := hide (n)
        refine hK _ _ (fun _ => HF'.out) ?_
        clear hK K HF hb n
        have HF := hide HF'.out
        clear HF'
        refine Calm.one (i := 13) (l' := #[true, true, true, true, true, true, true, true, true, true, true, true, true, true, false]) (by kernel_rfl) rfl rfl rfl fun K hK => ?_
        have LTS := hide (And.intro LT1q.out (And.intro LT2q.out (And.intro LT3q.out (And.intro LT4q.out (And.intro LT1r.out (And.intro LT2r.out (And.intro LT3r.out (And.intro LT4r.out (show gq ≠ gr by first | exact Nat.ne_of_lt LTqr.out | exact Nat.ne_of_gt LTrq.out)))))))))
        have hc0 := BXq.out.cell0
        have hc1 := BXq.out.cell1
        have hf0 := BXq.out.free 0
        have hf1 := BXq.out.free 1
        go_simp
        have HF' := hide (And.intro (below_put HF.out.1 (show w.heap.size ≤ gq by have hx := LTS.out; omega) (.bool sq) (.slice mq kq cq)) (And.intro (HF.out.2.1.other (C := gq) (by have hx := LTS.out; omega) (.bool sq) (.slice mq kq cq)) (And.intro (HF.out.2.2.1.other (C := gq) (by have hx := LTS.out; omega) (.bool sq) (.slice mq kq cq)) (And.intro (HF.out.2.2.2.1.other (C := gq) (by have hx := LTS.out; omega) (.bool sq) (.slice mq kq cq)) (And.intro (HF.out.2.2.2.2.1.other (C := gq) (by have hx := LTS.out; omega) (.bool sq) (.slice mq kq cq)) (And.intro (BXq.out.keeps (by simp) (by simp) (.bool sq) (.slice mq kq cq) _ _ HF.out.2.2.2.2.2.1) (BXq.out.keeps (by simp) (by simp) (.bool sq) (.slice mq kq cq) _ _ HF.out.2.2.2.2.2.2)))))))
        replace TQ := hide (TQ.out.keep (BXq.out.keeps (by simp) (by simp) (.bool sq) (.slice mq kq cq)))
        replace TR := hide (TR.out.keep (BXq.out.keeps (by simp) (by simp) (.bool sq) (.slice mq kq cq)))
        replace BXr := hide (BXr.out.other (C := gq) (by have hx := LTS.out; omega) (.bool sq) (.slice mq kq cq))
        replace BXq := hide (BXq.out.put (.bool sq) (.slice mq kq cq))
        refine hK _ _ (fun _ => HF'.out) ?_
        clear hK K HF hc0 hf0 hc1 hf1
        have HF := hide HF'.out
        clear HF'
        generalize ((u2.setCell ⟨gq, 0, none⟩ (.bool sq)).setCell ⟨gq, 1, none⟩ (.slice mq kq cq)) = ws1 at *
        refine Calm.one (i := 14) (l' := #[true, true, true, true, true, true, true, true, true, true, true, true, true, true, true]) (by kernel_rfl) rfl rfl rfl fun K hK => ?_
        have hc0 := BXr.out.cell0
        have hc1 := BXr.out.cell1
        have hf0 := BXr.out.free 0
        have hf1 := BXr.out.free 1
        go_simp
        have HF' := hide (And.intro (below_put HF.out.1 (show w.heap.size ≤ gr by have hx := LTS.out; omega) (.bool sr) (.slice mr kr cr)) (And.intro (HF.out.2.1.other (C := gr) (by have hx := LTS.out; omega) (.bool sr) (.slice mr kr cr)) (And.intro (HF.out.2.2.1.other (C := gr) (by have hx := LTS.out; omega) (.bool sr) (.slice mr kr cr)) (And.intro (HF.out.2.2.2.1.other (C := gr) (by have hx := LTS.out; omega) (.bool sr) (.slice mr kr cr)) (And.intro (HF.out.2.2.2.2.1.other (C := gr) (by have hx := LTS.out; omega) (.bool sr) (.slice mr kr cr)) (And.intro (BXr.out.keeps (by simp) (by simp) (.bool sr) (.slice mr kr cr) _ _ HF.out.2.2.2.2.2.1) (BXr.out.keeps (by simp) (by simp) (.bool sr) (.slice mr kr cr) _ _ HF.out.2.2.2.2.2.2)))))))
        replace TQ := hide (TQ.out.keep (BXr.out.keeps (by simp) (by simp) (.bool sr) (.slice mr kr cr)))
        replace TR := hide (TR.out.keep (BXr.out.keeps (by simp) (by simp) (.bool sr) (.slice mr kr cr)))
        replace BXq := hide (BXq.out.other (C := gr) (by have hx := LTS.out; omega) (.bool sr) (.slice mr kr cr))
        replace BXr := hide (BXr.out.put (.bool sr) (.slice mr kr cr))
        refine hK _ _ (fun _ => HF'.out) ?_
        clear hK K HF hc0 hf0 hc1 hf1
        have HF := hide HF'.out
        clear HF'
        generalize ((ws1.setCell ⟨gr, 0, none⟩ (.bool sr)).setCell ⟨gr, 1, none⟩ (.slice mr kr cr)) = ws2 at *
        refine Calm.done (by kernel_rfl) ?_
        go_wp2
        go_meet
        case rel => exact ⟨gq, gr, sq, mq, kq, cq, sr, mr, kr, cr, rfl, rfl, LTS.out, HF.out.1, HF.out.2.1, HF.out.2.2.1, HF.out.2.2.2.1, HF.out.2.2.2.2.1, BXq.out, BXr.out, TQ.out, TR.out⟩
    · go_simp
      have al := below_alloc w1d (.cells #[.bool false, .slice none 0 0] 30)
      have HF' := hide (And.intro (HF.out.1.trans ((al).mono HF.out.1.size)) (And.intro (HF.out.2.1.step (al)) (And.intro (HF.out.2.2.1.step (al)) (And.intro (HF.out.2.2.2.1.step (al)) (And.intro (HF.out.2.2.2.2.1.step (al)) (And.intro (HF.out.2.2.2.2.2.1.below (al)) (HF.out.2.2.2.2.2.2.below (al))))))))
      have BXr := hide (Box2.new w1d 30 (.bool false) (.slice none 0 0))
      have LT1r := hide (HF.out.2.1.lt)
      have LT2r := hide (HF.out.2.2.1.lt)
      have LT3r := hide (HF.out.2.2.2.1.lt)
      have LT4r := hide (HF.out.2.2.2.2.1.lt)
      have GEr := hide (HF.out.1.size)
      refine hK _ _ (fun _ => HF'.out) ?_
      clear hK K HF al
      have HF := hide HF'.out
      clear HF'
      generalize w1d.alloc (.cells #[.bool false, .slice none 0 0] 30) = wzr at *
      generalize w1d.heap.size = gr at *
      refine Calm.two (i := 6) (j := 11) (l := #[true, true, true, true, true, true, true, true, true, true, false, false, true, false, false]) (l' := #[true, true, true, true, true, true, false, true, true, true, false, true, true, false, false]) (by kernel_rfl) rfl rfl rfl rfl rfl rfl (fun K hK => ?_) (fun K hK => ?_)
      · go_simp
        refine (rnorm2_any _ _ (D.lim (n1 / n2)) _ HF.out.2.2.2.2.2.1 (D.ok_lim _)).mono ?_
        rintro e u1 ⟨v, rfl, n, hb⟩
        rw [D.val_lim] at n
        obtain ⟨sq, mq, kq, cq, rfl, n⟩ := n.cells
        replace BXr := hide (BXr.out.step hb)
        have HF' := hide (And.intro (HF.out.1.trans ((hb).mono HF.out.1.size)) (And.intro (HF.out.2.1.step (hb)) (And.intro (HF.out.2.2.1.step (hb)) (And.intro (HF.out.2.2.2.1.step (hb)) (And.intro (HF.out.2.2.2.2.1.step (hb)) (And.intro (HF.out.2.2.2.2.2.1.below (hb)) (HF.out.2.2.2.2.2.2.below (hb))))))))
        have TQ := hide (n)
        refine hK _ _ (fun _ => HF'.out) ?_
        clear hK K HF hb n
        have HF := hide HF'.out
        clear HF'
        refine Calm.two (i := 10) (j := 11) (l := #[true, true, true, true, true, true, true, true, true, true, true, false, true, false, false]) (l' := #[true, true, true, true, true, true, true, true, true, true, false, true, true, false, false]) (by kernel_rfl) rfl rfl rfl rfl rfl rfl (fun K hK => ?_) (fun K hK => ?_)
        · go_simp
          refine (rnorm2_any _ _ (D.lim (n1 % n2)) _ HF.out.2.2.2.2.2.2 (D.ok_lim _)).mono ?_
          rintro e u2 ⟨v, rfl, n, hb⟩
          rw [D.val_lim] at n
          obtain ⟨sr, mr, kr, cr, rfl, n⟩ := n.cells
          replace TQ := hide (TQ.out.below (hb))
          replace BXr := hide (BXr.out.step hb)
          have HF' := hide (And.intro (HF.out.1.trans ((hb).mono HF.out.1.size)) (And.intro (HF.out.2.1.step (hb)) (And.intro (HF.out.2.2.1.step (hb)) (And.intro (HF.out.2.2.2.1.step (hb)) (And.intro (HF.out.2.2.2.2.1.step (hb)) (And.intro (HF.out.2.2.2.2.2.1.below (hb)) (HF.out.2.2.2.2.2.2.below (hb))))))))
          have TR := hide (n)
          refine hK _ _ (fun _ => HF'.out) ?_
          clear hK K HF hb n
          have HF := hide HF'.out
          clear HF'
          refine Calm.one (i := 11) (l' := #[true, true, true, true, true, true, true, true, true, true, true, true, true, false, false]) (by kernel_rfl) rfl rfl rfl fun K hK => ?_
          go_simp
          have al := below_alloc u2 (.cells #[.bool false, .slice none 0 0] 30)
          have HF' := hide (And.intro (HF.out.1.trans ((al).mono HF.out.1.size)) (And.intro (HF.out.2.1.step (al)) (And.intro (HF.out.2.2.1.step (al)) (And.intro (HF.out.2.2.2.1.step (al)) (And.intro (HF.out.2.2.2.2.1.step (al)) (And.intro (HF.out.2.2.2.2.2.1.below (al)) (HF.out.2.2.2.2.2.2.below (al))))))))
          have BXq := hide (Box2.new u2 30 (.bool false) (.slice none 0 0))
          replace TQ := hide (TQ.out.below (al))
          replace TR := hide (TR.out.below (al))
          have LTrq := hide (BXr.out.lt)
          replace BXr := hide (BXr.out.step al)
          have LT1q := hide (HF.out.2.1.lt)
          have LT2q := hide (HF.out.2.2.1.lt)
          have LT3q := hide (HF.out.2.2.2.1.lt)
          have LT4q := hide (HF.out.2.2.2.2.1.lt)
          have GEq := hide (HF.out.1.size)
          refine hK _ _ (fun _ => HF'.out) ?_
          clear hK K HF al
          have HF := hide HF'.out
          clear HF'
          generalize u2.alloc (.cells #[.bool false, .slice none 0 0] 30) = wzq at *
          generalize u2.heap.size = gq at *
          refine Calm.one (i := 13) (l' := #[true, true, true, true, true, true, true, true, true, true, true, true, true, true, false]) (by kernel_rfl) rfl rfl rfl fun K hK => ?_
          have LTS := hide (And.intro LT1q.out (And.intro LT2q.out (And.intro LT3q.out (And.intro LT4q.out (And.intro LT1r.out (And.intro LT2r.out (And.intro LT3r.out (And.intro LT4r.out (show gq ≠ gr by first | exact Nat.ne_of_lt LTqr.out | exact Nat.ne_of_gt LTrq.out)))))))))
          have hc0 := BXq.out.cell0
          have hc1 := BXq.out.cell1
          have hf0 := BXq.out.free 0
          have hf1 := BXq.out.free 1
          go_simp
          have HF' := hide (And.intro (below_put HF.out.1 (show w.heap.size ≤ gq by have hx := LTS.out; omega) (.bool sq) (.slice mq kq cq)) (And.intro (HF.out.2.1.other (C := gq) (by have hx := LTS.out; omega) (.bool sq) (.slice mq kq cq)) (And.intro (HF.out.2.2.1.other (C := gq) (by have hx := LTS.out; omega) (.bool sq) (.slice mq kq cq)) (And.intro (HF.out.2.2.2.1.other (C := gq) (by have hx := LTS.out; omega) (.bool sq) (.slice mq kq cq)) (And.intro (HF.out.2.2.2.2.1.other (C := gq) (by have hx := LTS.out; omega) (.bool sq) (.slice mq kq cq)) (And.intro (BXq.out.keeps (by simp) (by simp) (.bool sq) (.slice mq kq cq) _ _ HF.out.2.2.2.2.2.1) (BXq.out.keeps (by simp) (by simp) (.bool sq) (.slice mq kq cq) _ _ HF.out.2.2.2.2.2.2)))))))
          replace TQ := hide (TQ.out.keep (BXq.out.keeps (by simp) (by simp) (.bool sq) (.slice mq kq cq)))
          replace TR := hide (TR.out.keep (BXq.out.keeps (by simp) (by simp) (.bool sq) (.slice mq kq cq)))
          replace BXr := hide (BXr.out.other (C := gq) (by have hx := LTS.out; omega) (.bool sq) (.slice mq kq cq))
          replace BXq := hide (BXq.out.put (.bool sq) (.slice mq kq cq))
          refine hK _ _ (fun _ => HF'.out) ?_
          clear hK K HF hc0 hf0 hc1 hf1
          have HF := hide HF'.out
          clear HF'
          generalize ((wzq.setCell ⟨gq, 0, none⟩ (.bool sq)).setCell ⟨gq, 1, none⟩ (.slice mq kq cq)) = ws1 at *
          refine Calm.one (i := 14) (l' := #[true, true, true, true, true, true, true, true, true, true, true, true, true, true, true]) (by kernel_rfl) rfl rfl rfl fun K hK => ?_
          have hc0 := BXr.out.cell0
          have hc1 := BXr.out.cell1
          have hf0 := BXr.out.free 0
          have hf1 := BXr.out.free 1
          go_simp
          have HF' := hide (And.intro (below_put HF.out.1 (show w.heap.size ≤ gr by have hx := LTS.out; omega) (.bool sr) (.slice mr kr cr)) (And.intro (HF.out.2.1.other (C := gr) (by have hx := LTS.out; omega) (.bool sr) (.slice mr kr cr)) (And.intro (HF.out.2.2.1.other (C := gr) (by have hx := LTS.out; omega) (.bool sr) (.slice mr kr cr)) (And.intro (HF.out.2.2.2.1.other (C := gr) (by have hx := LTS.out; omega) (.bool sr) (.slice mr kr cr)) (And.intro (HF.out.2.2.2.2.1.other (C := gr) (by have hx := LTS.out; omega) (.bool sr) (.slice mr kr cr)) (And.intro (BXr.out.keeps (by simp) (by simp) (.bool sr) (.slice mr kr cr) _ _ HF.out.2.2.2.2.2.1) (BXr.out.keeps (by simp) (by simp) (.bool sr) (.slice mr kr cr) _ _ HF.out.2.2.2.2.2.2)))))))
          replace TQ := hide (TQ.out.keep (BXr.out.keeps (by simp) (by simp) (.bool sr) (.slice mr kr cr)))
          replace TR := hide (TR.out.keep (BXr.out.keeps (by simp) (by simp) (.bool sr) (.slice mr kr cr)))
          replace BXq := hide (BXq.out.other (C := gr) (by have hx := LTS.out; omega) (.bool sr) (.slice mr kr cr))
          replace BXr := hide (BXr.out.put (.bool sr) (.slice mr kr cr))
          refine hK _ _ (fun _ => HF'.out) ?_
          clear hK K HF hc0 hf0 hc1 hf1
          have HF := hide HF'.out
          clear HF'
          generalize ((ws1.setCell ⟨gr, 0, none⟩ (.bool sr)).setCell ⟨gr, 1, none⟩ (.slice mr kr cr)) = ws2 at *
          refine Calm.done (by kernel_rfl) ?_
          go_wp2
          go_meet
          case rel => exact ⟨gq, gr, sq, mq, kq, cq, sr, mr, kr, cr, rfl, rfl, LTS.out, HF.out.1, HF.out.2.1, HF.out.2.2.1, HF.out.2.2.2.1, HF.out.2.2.2.2.1, BXq.out, BXr.out, TQ.out, TR.out⟩
        · go_simp
          have al := below_alloc u1 (.cells #[.bool false, .slice none 0 0] 30)
          have HF' := hide (And.intro (HF.out.1.trans ((al).mono HF.out.1.size)) (And.intro (HF.out.2.1.step (al)) (And.intro (HF.out.2.2.1.step (al)) (And.intro (HF.out.2.2.2.1.step (al)) (And.intro (HF.out.2.2.2.2.1.step (al)) (And.intro (HF.out.2.2.2.2.2.1.below (al)) (HF.out.2.2.2.2.2.2.below (al))))))))
          have BXq := hide (Box2.new u1 30 (.bool false) (.slice none 0 0))
          replace TQ := hide (TQ.out.below (al))
          have LTrq := hide (BXr.out.lt)
          replace BXr := hide (BXr.out.step al)
          have LT1q := hide (HF.out.2.1.lt)
          have LT2q := hide (HF.out.2.2.1.lt)
          have LT3q := hide (HF.out.2.2.2.1.lt)
          have LT4q := hide (HF.out.2.2.2.2.1.lt)
          have GEq := hide (HF.out.1.size)
          refine hK _ _ (fun _ => HF'.out) ?_
          clear hK K HF al
          have HF := hide HF'.out
          clear HF'
          generalize u1.alloc (.cells #[.bool false, .slice none 0 0] 30) = wzq at *
          generalize u1.heap.size = gq at *
          refine Calm.one (i := 10) (l' := #[true, true, true, true, true, true, true, true, true, true, true, true, true, false, false]) (by kernel_rfl) rfl rfl rfl fun K hK => ?_
          go_simp
          refine (rnorm2_any _ _ (D.lim (n1 % n2)) _ HF.out.2.2.2.2.2.2 (D.ok_lim _)).mono ?_
          rintro e u2 ⟨v, rfl, n, hb⟩
          rw [D.val_lim] at n
          obtain ⟨sr, mr, kr, cr, rfl, n⟩ := n.cells
          replace TQ := hide (TQ.out.below (hb))
          replace BXr := hide (BXr.out.step hb)
          replace BXq := hide (BXq.out.step hb)
          have HF' := hide (And.intro (HF.out.1.trans ((hb).mono HF.out.1.size)) (And.intro (HF.out.2.1.step (hb)) (And.intro (HF.out.2.2.1.step (hb)) (And.intro (HF.out.2.2.2.1.step (hb)) (And.intro (HF.out.2.2.2.2.1.step (hb)) (And.intro (HF.out.2.2.2.2.2.1.below (hb)) (HF.out.2.2.2.2.2.2.below (hb))))))))
          have TR := hide (n)
          refine hK _ _ (fun _ => HF'.out) ?_
          clear hK K HF hb n
          have HF := hide HF'.out
          clear HF'
          refine Calm.one (i := 13) (l' := #[true, true, true, true, true, true, true, true, true, true, true, true, true, true, false]) (by kernel_rfl) rfl rfl rfl fun K hK => ?_
          have LTS := hide (And.intro LT1q.out (And.intro LT2q.out (And.intro LT3q.out (And.intro LT4q.out (And.intro LT1r.out (And.intro LT2r.out (And.intro LT3r.out (And.intro LT4r.out (show gq ≠ gr by first | exact Nat.ne_of_lt LTqr.out | exact Nat.ne_of_gt LTrq.out)))))))))
          have hc0 := BXq.out.cell0
          have hc1 := BXq.out.cell1
          have hf0 := BXq.out.free 0
          have hf1 := BXq.out.free 1
          go_simp
          have HF' := hide (And.intro (below_put HF.out.1 (show w.heap.size ≤ gq by have hx := LTS.out; omega) (.bool sq) (.slice mq kq cq)) (And.intro (HF.out.2.1.other (C := gq) (by have hx := LTS.out; omega) (.bool sq) (.slice mq kq cq)) (And.intro (HF.out.2.2.1.other (C := gq) (by have hx := LTS.out; omega) (.bool sq) (.slice mq kq cq)) (And.intro (HF.out.2.2.2.1.other (C := gq) (by have hx := LTS.out; omega) (.bool sq) (.slice mq kq cq)) (And.intro (HF.out.2.2.2.2.1.other (C := gq) (by have hx := LTS.out; omega) (.bool sq) (.slice mq kq cq)) (And.intro (BXq.out.keeps (by simp) (by simp) (.bool sq) (.slice mq kq cq) _ _ HF.out.2.2.2.2.2.1) (BXq.out.keeps (by simp) (by simp) (.bool sq) (.slice mq kq cq) _ _ HF.out.2.2.2.2.2.2)))))))
          replace TQ := hide (TQ.out.keep (BXq.out.keeps (by simp) (by simp) (.bool sq) (.slice mq kq cq)))
          replace TR := hide (TR.out.keep (BXq.out.keeps (by simp) (by simp) (.bool sq) (.slice mq kq cq)))
          replace BXr := hide (BXr.out.other (C := gq) (by have hx := LTS.out; omega) (.bool sq) (.slice mq kq cq))
          replace BXq := hide (BXq.out.put (.bool sq) (.slice mq kq cq))
          refine hK _ _ (fun _ => HF'.out) ?_
          clear hK K HF hc0 hf0 hc1 hf1
          have HF := hide HF'.out
          clear HF'
          generalize ((u2.setCell ⟨gq, 0, none⟩ (.bool sq)).setCell ⟨gq, 1, none⟩ (.slice mq kq cq)) = ws1 at *
          refine Calm.one (i := 14) (l' := #[true, true, true, true, true, true, true, true, true, true, true, true, true, true, true]) (by kernel_rfl) rfl rfl rfl fun K hK => ?_
          have hc0 := BXr.out.cell0
          have hc1 := BXr.out.cell1
          have hf0 := BXr.out.free 0
          have hf1 := BXr.out.free 1
          go_simp
          have HF' := hide (And.intro (below_put HF.out.1 (show w.heap.size ≤ gr by have hx := LTS.out; omega) (.bool sr) (.slice mr kr cr)) (And.intro (HF.out.2.1.other (C := gr) (by have hx := LTS.out; omega) (.bool sr) (.slice mr kr cr)) (And.intro (HF.out.2.2.1.other (C := gr) (by have hx := LTS.out; omega) (.bool sr) (.slice mr kr cr)) (And.intro (HF.out.2.2.2.1.other (C := gr) (by have hx := LTS.out; omega) (.bool sr) (.slice mr kr cr)) (And.intro (HF.out.2.2.2.2.1.other (C := gr) (by have hx := LTS.out; omega) (.bool sr) (.slice mr kr cr)) (And.intro (BXr.out.keeps (by simp) (by simp) (.bool sr) (.slice mr kr cr) _ _ HF.out.2.2.2.2.2.1) (BXr.out.keeps (by simp) (by simp) (.bool sr) (.slice mr kr cr) _ _ HF.out.2.2.2.2.2.2)))))))
          replace TQ := hide (TQ.out.keep (BXr.out.keeps (by simp) (by simp) (.bool sr) (.slice mr kr cr)))
          replace TR := hide (TR.out.keep (BXr.out.keeps (by simp) (by simp) (.bool sr) (.slice mr kr cr)))
          replace BXq := hide (BXq.out.other (C := gr) (by have hx := LTS.out; omega) (.bool sr) (.slice mr kr cr))
          replace BXr := hide (BXr.out.put (.bool sr) (.slice mr kr cr))
          refine hK _ _ (fun _ => HF'.out) ?_
          clear hK K HF hc0 hf0 hc1 hf1
          have HF := hide HF'.out
          clear HF'
          generalize ((ws1.setCell ⟨gr, 0, none⟩ (.bool sr)).setCell ⟨gr, 1, none⟩ (.slice mr kr cr)) = ws2 at *
          refine Calm.done (by kernel_rfl) ?_
          go_wp2
          go_meet
          case rel => exact ⟨gq, gr, sq, mq, kq, cq, sr, mr, kr, cr, rfl, rfl, LTS.out, HF.out.1, HF.out.2.1, HF.out.2.2.1, HF.out.2.2.2.1, HF.out.2.2.2.2.1, BXq.out, BXr.out, TQ.out, TR.out⟩
      · go_simp
        have al := below_alloc wzr (.cells #[.bool false, .slice none 0 0] 30)
        have HF' := hide (And.intro (HF.out.1.trans ((al).mono HF.out.1.size)) (And.intro (HF.out.2.1.step (al)) (And.intro (HF.out.2.2.1.step (al)) (And.intro (HF.out.2.2.2.1.step (al)) (And.intro (HF.out.2.2.2.2.1.step (al)) (And.intro (HF.out.2.2.2.2.2.1.below (al)) (HF.out.2.2.2.2.2.2.below (al))))))))
        have BXq := hide (Box2.new wzr 30 (.bool false) (.slice none 0 0))
        have LTrq := hide (BXr.out.lt)
        replace BXr := hide (BXr.out.step al)
        have LT1q := hide (HF.out.2.1.lt)
        have LT2q := hide (HF.out.2.2.1.lt)
        have LT3q := hide (HF.out.2.2.2.1.lt)
        have LT4q := hide (HF.out.2.2.2.2.1.lt)
        have GEq := hide (HF.out.1.size)
        refine hK _ _ (fun _ => HF'.out) ?_
        clear hK K HF al
        have HF := hide HF'.out
        clear HF'
        generalize wzr.alloc (.cells #[.bool false, .slice none 0 0] 30) = wzq at *
        generalize wzr.heap.size = gq at *
        refine Calm.one (i := 6) (l' := #[true, true, true, true, true, true, true, true, true, true, false, true, true, false, false]) (by kernel_rfl) rfl rfl rfl fun K hK => ?_
        go_simp
        refine (rnorm2_any _ _ (D.lim (n1 / n2)) _ HF.out.2.2.2.2.2.1 (D.ok_lim _)).mono ?_
        rintro e u1 ⟨v, rfl, n, hb⟩
        rw [D.val_lim] at n
        obtain ⟨sq, mq, kq, cq, rfl, n⟩ := n.cells
        replace BXr := hide (BXr.out.step hb)
        replace BXq := hide (BXq.out.step hb)
        have HF' := hide (And.intro (HF.out.1.trans ((hb).mono HF.out.1.size)) (And.intro (HF.out.2.1.step (hb)) (And.intro (HF.out.2.2.1.step (hb)) (And.intro (HF.out.2.2.2.1.step (hb)) (And.intro (HF.out.2.2.2.2.1.step (hb)) (And.intro (HF.out.2.2.2.2.2.1.below (hb)) (HF.out.2.2.2.2.2.2.below (hb))))))))
        have TQ := hide (n)
        refine hK _ _ (fun _ => HF'.out) ?_
        clear hK K HF hb n
        have HF := hide HF'.out
        clear HF'
        refine Calm.one (i := 10) (l' := #[true, true, true, true, true, true, true, true, true, true, true, true, true, false, false]) (by kernel_rfl) rfl rfl rfl fun K hK => ?_
        go_simp
        refine (rnorm2_any _ _ (D.lim (n1 % n2)) _ HF.out.2.2.2.2.2.2 (D.ok_lim _)).mono ?_
        rintro e u2 ⟨v, rfl, n, hb⟩
        rw [D.val_lim] at n
        obtain ⟨sr, mr, kr, cr, rfl, n⟩ := n.cells
        replace TQ := hide (TQ.out.below (hb))
        replace BXr := hide (BXr.out.step hb)
        replace BXq := hide (BXq.out.step hb)
        have HF' := hide (And.intro (HF.out.1.trans ((hb).mono HF.out.1.size)) (And.intro (HF.out.2.1.step (hb)) (And.intro (HF.out.2.2.1.step (hb)) (And.intro (HF.out.2.2.2.1.step (hb)) (And.intro (HF.out.2.2.2.2.1.step (hb)) (And.intro (HF.out.2.2.2.2.2.1.below (hb)) (HF.out.2.2.2.2.2.2.below (hb))))))))
        have TR := hide (n)
        refine hK _ _ (fun _ => HF'.out) ?_
        clear hK K HF hb n
        have HF := hide HF'.out
        clear HF'
        refine Calm.one (i := 13) (l' := #[true, true, true, true, true, true, true, true, true, true, true, true, true, true, false]) (by kernel_rfl) rfl rfl rfl fun K hK => ?_
        have LTS := hide (And.intro LT1q.out (And.intro LT2q.out (And.intro LT3q.out (And.intro LT4q.out (And.intro LT1r.out (And.intro LT2r.out (And.intro LT3r.out (And.intro LT4r.out (show gq ≠ gr by first | exact Nat.ne_of_lt LTqr.out | exact Nat.ne_of_gt LTrq.out)))))))))
        have hc0 := BXq.out.cell0
        have hc1 := BXq.out.cell1
        have hf0 := BXq.out.free 0
        have hf1 := BXq.out.free 1
        go_simp
        have HF' := hide (And.intro (below_put HF.out.1 (show w.heap.size ≤ gq by have hx := LTS.out; omega) (.bool sq) (.slice mq kq cq)) (And.intro (HF.out.2.1.other (C := gq) (by have hx := LTS.out; omega) (.bool sq) (.slice mq kq cq)) (And.intro (HF.out.2.2.1.other (C := gq) (by have hx := LTS.out; omega) (.bool sq) (.slice mq kq cq)) (And.intro (HF.out.2.2.2.1.other (C := gq) (by have hx := LTS.out; omega) (.bool sq) (.slice mq kq cq)) (And.intro (HF.out.2.2.2.2.1.other (C := gq) (by have hx := LTS.out; omega) (.bool sq) (.slice mq kq cq)) (And.intro (BXq.out.keeps (by simp) (by simp) (.bool sq) (.slice mq kq cq) _ _ HF.out.2.2.2.2.2.1) (BXq.out.keeps (by simp) (by simp) (.bool sq) (.slice mq kq cq) _ _ HF.out.2.2.2.2.2.2)))))))
        replace TQ := hide (TQ.out.keep (BXq.out.keeps (by simp) (by simp) (.bool sq) (.slice mq kq cq)))
        replace TR := hide (TR.out.keep (BXq.out.keeps (by simp) (by simp) (.bool sq) (.slice mq kq cq)))
        replace BXr := hide (BXr.out.other (C := gq) (by have hx := LTS.out; omega) (.bool sq) (.slice mq kq cq))
        replace BXq := hide (BXq.out.put (.bool sq) (.slice mq kq cq))
        refine hK _ _ (fun _ => HF'.out) ?_
        clear hK K HF hc0 hf0 hc1 hf1
        have HF := hide HF'.out
        clear HF'
        generalize ((u2.setCell ⟨gq, 0, none⟩ (.bool sq)).setCell ⟨gq, 1, none⟩ (.slice mq kq cq)) = ws1 at *
        refine Calm.one (i := 14) (l' := #[true, true, true, true, true, true, true, true, true, true, true, true, true, true, true]) (by kernel_rfl) rfl rfl rfl fun K hK => ?_
        have hc0 := BXr.out.cell0
        have hc1 := BXr.out.cell1
        have hf0 := BXr.out.free 0
        have hf1 := BXr.out.free 1
        go_simp
        have HF' := hide (And.intro (below_put HF.out.1 (show w.heap.size ≤ gr by have hx := LTS.out; omega) (.bool sr) (.slice mr kr cr)) (And.intro (HF.out.2.1.other (C := gr) (by have hx := LTS.out; omega) (.bool sr) (.slice mr kr cr)) (And.intro (HF.out.2.2.1.other (C := gr) (by have hx := LTS.out; omega) (.bool sr) (.slice mr kr cr)) (And.intro (HF.out.2.2.2.1.other (C := gr) (by have hx := LTS.out; omega) (.bool sr) (.slice mr kr cr)) (And.intro (HF.out.2.2.2.2.1.other (C := gr) (by have hx := LTS.out; omega) (.bool sr) (.slice mr kr cr)) (And.intro (BXr.out.keeps (by simp) (by simp) (.bool sr) (.slice mr kr cr) _ _ HF.out.2.2.2.2.2.1) (BXr.out.keeps (by simp) (by simp) (.bool sr) (.slice mr kr cr) _ _ HF.out.2.2.2.2.2.2)))))))
        replace TQ := hide (TQ.out.keep (BXr.out.keeps (by simp) (by simp) (.bool sr) (.slice mr kr cr)))
        replace TR := hide (TR.out.keep (BXr.out.keeps (by simp) (by simp) (.bool sr) (.slice mr kr cr)))
        replace BXq := hide (BXq.out.other (C := gr) (by have hx := LTS.out; omega) (.bool sr) (.slice mr kr cr))
        replace BXr := hide (BXr.out.put (.bool sr) (.slice mr kr cr))
        refine hK _ _ (fun _ => HF'.out) ?_
        clear hK K HF hc0 hf0 hc1 hf1
        have HF := hide HF'.out
        clear HF'
        generalize ((ws1.setCell ⟨gr, 0, none⟩ (.bool sr)).setCell ⟨gr, 1, none⟩ (.slice mr kr cr)) = ws2 at *
        refine Calm.done (by kernel_rfl) ?_
        go_wp2
        go_meet
        case rel => exact ⟨gq, gr, sq, mq, kq, cq, sr, mr, kr, cr, rfl, rfl, LTS.out, HF.out.1, HF.out.2.1, HF.out.2.2.1, HF.out.2.2.2.1, HF.out.2.2.2.2.1, BXq.out, BXr.out, TQ.out, TR.out⟩
  case rest =>
  obtain ⟨gq, gr, sq, mq, kq, cq, sr, mr, kr, cr, rfl, rfl, hlts, hB, h1, h2, h3, h4, hq, hr, hiq, hir⟩ := hcut
  have LTS := hide hlts
  clear HB P0 P1 P2 P3 NQ NR
  have HB := hide hB
  have P0 := hide h1
  have P1 := hide h2
  have P2 := hide h3
  have P3 := hide h4
  have PQ := hide hq
  have PR := hide hr
  have IQ := hide hiq
  have IR := hide hir
  clear hlts hB h1 h2 h3 h4 hq hr hiq hir
  generalize hwc : wc = w5 at *
  clear hwc
  replace Y2 := hide (Y2.out.below HB.out)
  have r0 := PR.out.cell0
  have r1 := PR.out.cell1
  have HSR := hide (RInt.neg IR.out)
  cases sr with
  | true =>
    have hs : (sg b1 (n1 % n2)) < 0 := HSR.out.1 rfl
    have HS := hide hs
    clear hs HSR
    go_wp2_with fail
    clear r0 r1
    replace P2 := hide P2.out.drew
    replace P3 := hide P3.out.drew
    refine wp_calm (fun w' => Below w.heap.size w w' ∧ Box2 w' w.heap.size 30 (.bool b1) (.slice a1 L1 c1) ∧ Box2 w' (w.heap.size + 1) 30 (.bool b2) (.slice a2 L2 c2) ∧ Box2 w' gq 30 (.bool sq) (.slice mq kq cq) ∧ Box2 w' gr 30 (.bool true) (.slice mr kr cr) ∧ RInt w' (.agg #[.bool sq, .slice mq kq cq]) (sg (b1 != b2) (n1 / n2)) ∧ RInt w' (.agg #[.bool true, .slice mr kr cr]) (sg b1 (n1 % n2)) ∧ RInt w' (.agg #[.bool b2, .slice a2 L2 c2]) (sg b2 n2)) (fun j => j != 4) 5 #[false, false, false, false, false] (by kernel_rfl) rfl rfl ?_
    have HF := hide (And.intro (HB.out.drew) (And.intro (P0.out.drew) (And.intro (P1.out.drew) (And.intro (PQ.out.drew) (And.intro (PR.out.drew) (And.intro (IQ.out.drew) (And.intro (IR.out.drew) (Y2.out.drew))))))))
    generalize w5.drew = w5d at *
    refine Calm.take (i := 0) (v := ?_) (a' := ?_) (l' := #[true, false, false, false, false]) (d := some 31) rfl (by kernel_rfl) (by kernel_rfl) (by kernel_rfl) (by kernel_rfl) (fun _ _ _ h => h) HF.out rfl ?_ rfl rfl ?_ ?_
    rotate_left
    · intro w' hF; have f10 := hF.2.1.cell0; have f11 := hF.2.1.cell1; have f20 := hF.2.2.1.cell0; have f21 := hF.2.2.1.cell1; have f30 := hF.2.2.2.1.cell0; have f31 := hF.2.2.2.1.cell1; have f40 := hF.2.2.2.2.1.cell0; have f41 := hF.2.2.2.2.1.cell1; clear hF; go_simp; try rfl
    rotate_left
    · simp only [Act.put]; exact rfl
    refine Calm.take (i := 1) (v := ?_) (a' := ?_) (l' := #[true, true, false, false, false]) (d := some 32) rfl (by kernel_rfl) (by kernel_rfl) (by kernel_rfl) (by kernel_rfl) (fun _ _ _ h => h) HF.out rfl ?_ rfl rfl ?_ ?_
    rotate_left
    · intro w' hF; have f10 := hF.2.1.cell0; have f11 := hF.2.1.cell1; have f20 := hF.2.2.1.cell0; have f21 := hF.2.2.1.cell1; have f30 := hF.2.2.2.1.cell0; have f31 := hF.2.2.2.1.cell1; have f40 := hF.2.2.2.2.1.cell0; have f41 := hF.2.2.2.2.1.cell1; clear hF; go_simp; try rfl
    rotate_left
    · simp only [Act.put]; exact rfl
    refine Calm.one (i := 2) (l' := #[true, true, true, false, false]) (by kernel_rfl) rfl rfl rfl fun K hK => ?_
    go_simp
    refine (rabs_any _ (sg b2 n2) _ HF.out.2.2.2.2.2.2.2).mono ?_
    rintro e u1 ⟨v, rfl, n, hb⟩
    replace P2 := hide (P2.out.step (hb))
    replace P3 := hide (P3.out.step (hb))
    have HF' := hide (And.intro (HF.out.1.trans ((hb).mono HF.out.1.size)) (And.intro (HF.out.2.1.step (hb)) (And.intro (HF.out.2.2.1.step (hb)) (And.intro (HF.out.2.2.2.1.step (hb)) (And.intro (HF.out.2.2.2.2.1.step (hb)) (And.intro (HF.out.2.2.2.2.2.1.below (hb)) (And.intro (HF.out.2.2.2.2.2.2.1.below (hb)) (HF.out.2.2.2.2.2.2.2.below (hb)))))))))
    have TA := hide (n)
    refine hK _ _ (fun _ => HF'.out) ?_
    clear hK K HF hb n
    have HF := hide HF'.out
    clear HF'
    refine Calm.one (i := 3) (l' := #[true, true, true, true, false]) (by kernel_rfl) rfl rfl rfl fun K hK => ?_
    go_simp
    refine (radd2_any _ _ (sg b1 (n1 % n2)) ((sg b2 n2).natAbs : Int) _ HF.out.2.2.2.2.2.2.1 TA.out LR.out (by rw [Int.natAbs_natCast]; exact LY.out)).mono ?_
    rintro e u2 ⟨v, rfl, n, hb⟩
    obtain ⟨s4, m4, k4, d4, rfl, n⟩ := n.cells
    replace P2 := hide (P2.out.step (hb))
    replace P3 := hide (P3.out.step (hb))
    clear TA
    have HF' := hide (And.intro (HF.out.1.trans ((hb).mono HF.out.1.size)) (And.intro (HF.out.2.1.step (hb)) (And.intro (HF.out.2.2.1.step (hb)) (And.intro (HF.out.2.2.2.1.step (hb)) (And.intro (HF.out.2.2.2.2.1.step (hb)) (And.intro (HF.out.2.2.2.2.2.1.below (hb)) (And.intro (HF.out.2.2.2.2.2.2.1.below (hb)) (HF.out.2.2.2.2.2.2.2.below (hb)))))))))
    have TR := hide (n)
    refine hK _ _ (fun _ => HF'.out) ?_
    clear hK K HF hb n
    have HF := hide HF'.out
    clear HF'
    refine Calm.one (i := 4) (l' := #[true, true, true, true, true]) (by kernel_rfl) rfl rfl rfl fun K hK => ?_
    have hc0 := HF.out.2.2.2.2.1.cell0
    have hc1 := HF.out.2.2.2.2.1.cell1
    have hf0 := HF.out.2.2.2.2.1.free 0
    have hf1 := HF.out.2.2.2.2.1.free 1
    go_simp
    refine hK _ _ (fun h => absurd h (by decide)) ?_
    clear hK K
    refine Calm.done (by kernel_rfl) ?_
    clear hc0 hc1 hf0 hf1
    have HBn := hide (below_put HF.out.1 (show w.heap.size ≤ gr by have hx := LTS.out; omega) (.bool s4) (.slice m4 k4 d4))
    have P0n := hide (HF.out.2.1.other (C := gr) (by have hx := LTS.out; omega) (.bool s4) (.slice m4 k4 d4))
    have P1n := hide (HF.out.2.2.1.other (C := gr) (by have hx := LTS.out; omega) (.bool s4) (.slice m4 k4 d4))
    have PQn := hide (HF.out.2.2.2.1.other (C := gr) (by have hx := LTS.out; omega) (.bool s4) (.slice m4 k4 d4))
    have PRn := hide (HF.out.2.2.2.2.1.put (.bool s4) (.slice m4 k4 d4))
    have IQn := hide (HF.out.2.2.2.2.2.1.keep (HF.out.2.2.2.2.1.keeps (by simp) (by simp) (.bool s4) (.slice m4 k4 d4)))
    have IRn := hide (TR.out.keep (HF.out.2.2.2.2.1.keeps (by simp) (by simp) (.bool s4) (.slice m4 k4 d4)))
    have Y2n := hide (HF.out.2.2.2.2.2.2.2.keep (HF.out.2.2.2.2.1.keeps (by simp) (by simp) (.bool s4) (.slice m4 k4 d4)))
    replace P2 := hide (P2.out.other (C := gr) (by have hx := LTS.out; omega) (.bool s4) (.slice m4 k4 d4))
    replace P3 := hide (P3.out.other (C := gr) (by have hx := LTS.out; omega) (.bool s4) (.slice m4 k4 d4))
    clear HB P0 P1 PQ PR IQ IR Y2 HF TR
    have HB := hide HBn.out
    have P0 := hide P0n.out
    have P1 := hide P1n.out
    have PQ := hide PQn.out
    have PR := hide PRn.out
    have IQ := hide IQn.out
    have IR := hide IRn.out
    have Y2 := hide Y2n.out
    clear HBn P0n P1n PQn PRn IQn IRn Y2n
    generalize (u2.setCell ⟨gr, 0, none⟩ (.bool s4)).setCell ⟨gr, 1, none⟩ (.slice m4 k4 d4) = w6 at *
    go_wp2_with fail
    replace P2 := hide P2.out.drew
    replace P3 := hide P3.out.drew
    refine wp_calm (fun w' => Below w.heap.size w w' ∧ Box2 w' w.heap.size 30 (.bool b1) (.slice a1 L1 c1) ∧ Box2 w' (w.heap.size + 1) 30 (.bool b2) (.slice a2 L2 c2) ∧ Box2 w' gq 30 (.bool sq) (.slice mq kq cq) ∧ Box2 w' gr 30 (.bool s4) (.slice m4 k4 d4) ∧ RInt w' (.agg #[.bool sq, .slice mq kq cq]) (sg (b1 != b2) (n1 / n2)) ∧ RInt w' (.agg #[.bool s4, .slice m4 k4 d4]) ((sg b1 (n1 % n2)) + ((sg b2 n2).natAbs : Int)) ∧ RInt w' (.agg #[.bool b2, .slice a2 L2 c2]) (sg b2 n2)) (fun j => j != 5) 6 #[false, false, false, false, false, false] (by kernel_rfl) rfl rfl ?_
    have HF := hide (And.intro (HB.out.drew) (And.intro (P0.out.drew) (And.intro (P1.out.drew) (And.intro (PQ.out.drew) (And.intro (PR.out.drew) (And.intro (IQ.out.drew) (And.intro (IR.out.drew) (Y2.out.drew))))))))
    generalize w6.drew = w6d at *
    refine Calm.take (i := 0) (v := ?_) (a' := ?_) (l' := #[true, false, false, false, false, false]) (d := some 35) rfl (by kernel_rfl) (by kernel_rfl) (by kernel_rfl) (by kernel_rfl) (fun _ _ _ h => h) HF.out rfl ?_ rfl rfl ?_ ?_
    rotate_left
    · intro w' hF; have f10 := hF.2.1.cell0; have f11 := hF.2.1.cell1; have f20 := hF.2.2.1.cell0; have f21 := hF.2.2.1.cell1; have f30 := hF.2.2.2.1.cell0; have f31 := hF.2.2.2.1.cell1; have f40 := hF.2.2.2.2.1.cell0; have f41 := hF.2.2.2.2.1.cell1; clear hF; go_simp; try rfl
    rotate_left
    · simp only [Act.put]; exact rfl
    refine Calm.take (i := 1) (v := ?_) (a' := ?_) (l' := #[true, true, false, false, false, false]) (d := some 36) rfl (by kernel_rfl) (by kernel_rfl) (by kernel_rfl) (by kernel_rfl) (fun _ _ _ h => h) HF.out rfl ?_ rfl rfl ?_ ?_
    rotate_left
    · intro w' hF; have f10 := hF.2.1.cell0; have f11 := hF.2.1.cell1; have f20 := hF.2.2.1.cell0; have f21 := hF.2.2.1.cell1; have f30 := hF.2.2.2.1.cell0; have f31 := hF.2.2.2.1.cell1; have f40 := hF.2.2.2.2.1.cell0; have f41 := hF.2.2.2.2.1.cell1; clear hF; go_simp; try rfl
    rotate_left
    · simp only [Act.put]; exact rfl
    refine Calm.one (i := 2) (l' := #[true, true, true, false, false, false]) (by kernel_rfl) rfl rfl rfl fun K hK => ?_
    go_simp
    refine (rsign_any _ (sg b2 n2) _ HF.out.2.2.2.2.2.2.2).mono ?_
    rintro e u3 ⟨rfl, hb⟩
    replace P2 := hide (P2.out.step (hb))
    replace P3 := hide (P3.out.step (hb))
    have HF' := hide (And.intro (HF.out.1.trans ((hb).mono HF.out.1.size)) (And.intro (HF.out.2.1.step (hb)) (And.intro (HF.out.2.2.1.step (hb)) (And.intro (HF.out.2.2.2.1.step (hb)) (And.intro (HF.out.2.2.2.2.1.step (hb)) (And.intro (HF.out.2.2.2.2.2.1.below (hb)) (And.intro (HF.out.2.2.2.2.2.2.1.below (hb)) (HF.out.2.2.2.2.2.2.2.below (hb)))))))))
    refine hK _ _ (fun _ => HF'.out) ?_
    clear hK K HF hb
    have HF := hide HF'.out
    clear HF'
    refine Calm.one (i := 3) (l' := #[true, true, true, true, false, false]) (by kernel_rfl) rfl rfl rfl fun K hK => ?_
    go_simp
    refine (rof_any (sgnI (sg b2 n2)) _ (sgnI_lo _) (sgnI_hi _)).mono ?_
    rintro e u4 ⟨v, rfl, n, hb⟩
    replace P2 := hide (P2.out.step (hb))
    replace P3 := hide (P3.out.step (hb))
    have HF' := hide (And.intro (HF.out.1.trans ((hb).mono HF.out.1.size)) (And.intro (HF.out.2.1.step (hb)) (And.intro (HF.out.2.2.1.step (hb)) (And.intro (HF.out.2.2.2.1.step (hb)) (And.intro (HF.out.2.2.2.2.1.step (hb)) (And.intro (HF.out.2.2.2.2.2.1.below (hb)) (And.intro (HF.out.2.2.2.2.2.2.1.below (hb)) (HF.out.2.2.2.2.2.2.2.below (hb)))))))))
    have TS := hide (n)
    refine hK _ _ (fun _ => HF'.out) ?_
    clear hK K HF hb n
    have HF := hide HF'.out
    clear HF'
    refine Calm.one (i := 4) (l' := #[true, true, true, true, true, false]) (by kernel_rfl) rfl rfl rfl fun K hK => ?_
    go_simp
    refine (rsub2_any _ _ (sg (b1 != b2) (n1 / n2)) (sgnI (sg b2 n2)) _ HF.out.2.2.2.2.2.1 TS.out LQ.out (sgn_dlen _)).mono ?_
    rintro e u5 ⟨v, rfl, n, hb⟩
    obtain ⟨s3, m3, k3, d3, rfl, n⟩ := n.cells
    replace P2 := hide (P2.out.step (hb))
    replace P3 := hide (P3.out.step (hb))
    clear TS
    have HF' := hide (And.intro (HF.out.1.trans ((hb).mono HF.out.1.size)) (And.intro (HF.out.2.1.step (hb)) (And.intro (HF.out.2.2.1.step (hb)) (And.intro (HF.out.2.2.2.1.step (hb)) (And.intro (HF.out.2.2.2.2.1.step (hb)) (And.intro (HF.out.2.2.2.2.2.1.below (hb)) (And.intro (HF.out.2.2.2.2.2.2.1.below (hb)) (HF.out.2.2.2.2.2.2.2.below (hb)))))))))
    have TQ := hide (n)
    refine hK _ _ (fun _ => HF'.out) ?_
    clear hK K HF hb n
    have HF := hide HF'.out
    clear HF'
    refine Calm.one (i := 5) (l' := #[true, true, true, true, true, true]) (by kernel_rfl) rfl rfl rfl fun K hK => ?_
    have hc0 := HF.out.2.2.2.1.cell0
    have hc1 := HF.out.2.2.2.1.cell1
    have hf0 := HF.out.2.2.2.1.free 0
    have hf1 := HF.out.2.2.2.1.free 1
    go_simp
    refine hK _ _ (fun h => absurd h (by decide)) ?_
    clear hK K
    refine Calm.done (by kernel_rfl) ?_
    clear hc0 hc1 hf0 hf1
    have HBn := hide (below_put HF.out.1 (show w.heap.size ≤ gq by have hx := LTS.out; omega) (.bool s3) (.slice m3 k3 d3))
    have P0n := hide (HF.out.2.1.other (C := gq) (by have hx := LTS.out; omega) (.bool s3) (.slice m3 k3 d3))
    have P1n := hide (HF.out.2.2.1.other (C := gq) (by have hx := LTS.out; omega) (.bool s3) (.slice m3 k3 d3))
    have PQn := hide (HF.out.2.2.2.1.put (.bool s3) (.slice m3 k3 d3))
    have PRn := hide (HF.out.2.2.2.2.1.other (C := gq) (by have hx := LTS.out; omega) (.bool s3) (.slice m3 k3 d3))
    have IQn := hide (TQ.out.keep (HF.out.2.2.2.1.keeps (by simp) (by simp) (.bool s3) (.slice m3 k3 d3)))
    have IRn := hide (HF.out.2.2.2.2.2.2.1.keep (HF.out.2.2.2.1.keeps (by simp) (by simp) (.bool s3) (.slice m3 k3 d3)))
    have Y2n := hide (HF.out.2.2.2.2.2.2.2.keep (HF.out.2.2.2.1.keeps (by simp) (by simp) (.bool s3) (.slice m3 k3 d3)))
    replace P2 := hide (P2.out.other (C := gq) (by have hx := LTS.out; omega) (.bool s3) (.slice m3 k3 d3))
    replace P3 := hide (P3.out.other (C := gq) (by have hx := LTS.out; omega) (.bool s3) (.slice m3 k3 d3))
    clear HB P0 P1 PQ PR IQ IR Y2 HF TQ
    have HB := hide HBn.out
    have P0 := hide P0n.out
    have P1 := hide P1n.out
    have PQ := hide PQn.out
    have PR := hide PRn.out
    have IQ := hide IQn.out
    have IR := hide IRn.out
    have Y2 := hide Y2n.out
    clear HBn P0n P1n PQn PRn IQn IRn Y2n
    generalize (u5.setCell ⟨gq, 0, none⟩ (.bool s3)).setCell ⟨gq, 1, none⟩ (.slice m3 k3 d3) = w7 at *
    go_wp2_with fail
    replace P2 := hide P2.out.drew
    replace P3 := hide P3.out.drew
    refine wp_calm (fun w' => Below w.heap.size w w' ∧ Box2 w' w.heap.size 30 (.bool b1) (.slice a1 L1 c1) ∧ Box2 w' (w.heap.size + 1) 30 (.bool b2) (.slice a2 L2 c2) ∧ Box2 w' gq 30 (.bool s3) (.slice m3 k3 d3) ∧ Box2 w' gr 30 (.bool s4) (.slice m4 k4 d4) ∧ RInt w' (.agg #[.bool s3, .slice m3 k3 d3]) ((sg (b1 != b2) (n1 / n2)) - sgnI (sg b2 n2)) ∧ RInt w' (.agg #[.bool s4, .slice m4 k4 d4]) ((sg b1 (n1 % n2)) + ((sg b2 n2).natAbs : Int))) (fun _ => true) 4 #[false, false, false, false] (by kernel_rfl) rfl rfl ?_
    have HF := hide (And.intro (HB.out.drew) (And.intro (P0.out.drew) (And.intro (P1.out.drew) (And.intro (PQ.out.drew) (And.intro (PR.out.drew) (And.intro (IQ.out.drew) (IR.out.drew)))))))
    generalize w7.drew = w7d at *
    refine Calm.take (i := 0) (v := ?_) (a' := ?_) (l' := #[true, false, false, false]) (d := some 40) rfl (by kernel_rfl) (by kernel_rfl) (by kernel_rfl) (by kernel_rfl) (fun _ _ _ h => h) HF.out rfl ?_ rfl rfl ?_ ?_
    rotate_left
    · intro w' hF; have f10 := hF.2.1.cell0; have f11 := hF.2.1.cell1; have f20 := hF.2.2.1.cell0; have f21 := hF.2.2.1.cell1; have f30 := hF.2.2.2.1.cell0; have f31 := hF.2.2.2.1.cell1; have f40 := hF.2.2.2.2.1.cell0; have f41 := hF.2.2.2.2.1.cell1; clear hF; go_simp; try rfl
    rotate_left
    · simp only [Act.put]; exact rfl
    refine Calm.take (i := 1) (v := ?_) (a' := ?_) (l' := #[true, true, false, false]) (d := some 41) rfl (by kernel_rfl) (by kernel_rfl) (by kernel_rfl) (by kernel_rfl) (fun _ _ _ h => h) HF.out rfl ?_ rfl rfl ?_ ?_
    rotate_left
    · intro w' hF; have f10 := hF.2.1.cell0; have f11 := hF.2.1.cell1; have f20 := hF.2.2.1.cell0; have f21 := hF.2.2.1.cell1; have f30 := hF.2.2.2.1.cell0; have f31 := hF.2.2.2.1.cell1; have f40 := hF.2.2.2.2.1.cell0; have f41 := hF.2.2.2.2.1.cell1; clear hF; go_simp; try rfl
    rotate_left
    · simp only [Act.put]; exact rfl
    refine Calm.one (i := 2) (l' := #[true, true, true, false]) (by kernel_rfl) rfl rfl rfl fun K hK => ?_
    have hc0 := P2.out.cell0
    have hc1 := P2.out.cell1
    have hf0 := P2.out.free 0
    have hf1 := P2.out.free 1
    go_simp
    have HF' := hide (And.intro (below_put HF.out.1 (show w.heap.size ≤ (w.heap.size + 1 + 1) by have hx := LTS.out; omega) (.bool s3) (.slice m3 k3 d3)) (And.intro (HF.out.2.1.other (C := (w.heap.size + 1 + 1)) (by have hx := LTS.out; omega) (.bool s3) (.slice m3 k3 d3)) (And.intro (HF.out.2.2.1.other (C := (w.heap.size + 1 + 1)) (by have hx := LTS.out; omega) (.bool s3) (.slice m3 k3 d3)) (And.intro (HF.out.2.2.2.1.other (C := (w.heap.size + 1 + 1)) (by have hx := LTS.out; omega) (.bool s3) (.slice m3 k3 d3)) (And.intro (HF.out.2.2.2.2.1.other (C := (w.heap.size + 1 + 1)) (by have hx := LTS.out; omega) (.bool s3) (.slice m3 k3 d3)) (And.intro (HF.out.2.2.2.2.2.1.keep (P2.out.keeps (by simp) (by simp) (.bool s3) (.slice m3 k3 d3))) (HF.out.2.2.2.2.2.2.keep (P2.out.keeps (by simp) (by simp) (.bool s3) (.slice m3 k3 d3)))))))))
    replace P3 := hide (P3.out.other (C := (w.heap.size + 1 + 1)) (by have hx := LTS.out; omega) (.bool s3) (.slice m3 k3 d3))
    replace P2 := hide (P2.out.put (.bool s3) (.slice m3 k3 d3))
    refine hK _ _ (fun _ => HF'.out) ?_
    clear hK K HF hc0 hf0 hc1 hf1
    have HF := hide HF'.out
    clear HF'
    generalize ((w7d.setCell ⟨(w.heap.size + 1 + 1), 0, none⟩ (.bool s3)).setCell ⟨(w.heap.size + 1 + 1), 1, none⟩ (.slice m3 k3 d3)) = wt1 at *
    refine Calm.one (i := 3) (l' := #[true, true, true, true]) (by kernel_rfl) rfl rfl rfl fun K hK => ?_
    have hc0 := P3.out.cell0
    have hc1 := P3.out.cell1
    have hf0 := P3.out.free 0
    have hf1 := P3.out.free 1
    go_simp
    have HF' := hide (And.intro (below_put HF.out.1 (show w.heap.size ≤ (w.heap.size + 1 + 1 + 1) by have hx := LTS.out; omega) (.bool s4) (.slice m4 k4 d4)) (And.intro (HF.out.2.1.other (C := (w.heap.size + 1 + 1 + 1)) (by have hx := LTS.out; omega) (.bool s4) (.slice m4 k4 d4)) (And.intro (HF.out.2.2.1.other (C := (w.heap.size + 1 + 1 + 1)) (by have hx := LTS.out; omega) (.bool s4) (.slice m4 k4 d4)) (And.intro (HF.out.2.2.2.1.other (C := (w.heap.size + 1 + 1 + 1)) (by have hx := LTS.out; omega) (.bool s4) (.slice m4 k4 d4)) (And.intro (HF.out.2.2.2.2.1.other (C := (w.heap.size + 1 + 1 + 1)) (by have hx := LTS.out; omega) (.bool s4) (.slice m4 k4 d4)) (And.intro (HF.out.2.2.2.2.2.1.keep (P3.out.keeps (by simp) (by simp) (.bool s4) (.slice m4 k4 d4))) (HF.out.2.2.2.2.2.2.keep (P3.out.keeps (by simp) (by simp) (.bool s4) (.slice m4 k4 d4)))))))))
    replace P2 := hide (P2.out.other (C := (w.heap.size + 1 + 1 + 1)) (by have hx := LTS.out; omega) (.bool s4) (.slice m4 k4 d4))
    replace P3 := hide (P3.out.put (.bool s4) (.slice m4 k4 d4))
    refine hK _ _ (fun _ => HF'.out) ?_
    clear hK K HF hc0 hf0 hc1 hf1
    have HF := hide HF'.out
    clear HF'
    generalize ((wt1.setCell ⟨(w.heap.size + 1 + 1 + 1), 0, none⟩ (.bool s4)).setCell ⟨(w.heap.size + 1 + 1 + 1), 1, none⟩ (.slice m4 k4 d4)) = wt2 at *
    refine Calm.done (by kernel_rfl) ?_
    go_wp2
    refine ret_two rfl (w.heap.size + 1 + 1) (w.heap.size + 1 + 1 + 1) _ _ _ _ rfl rfl P2.out P3.out rfl ?_
    exact ⟨_, _, rfl, (div_less b1 b2 n1 n2 hy HS.out).1 ▸ HF.out.2.2.2.2.2.1, (div_less b1 b2 n1 n2 hy HS.out).2 ▸ HF.out.2.2.2.2.2.2, HF.out.1⟩
  | false =>
    have hs : ¬ (sg b1 (n1 % n2)) < 0 := fun h => absurd (HSR.out.2 h) (by decide)
    have HS := hide hs
    clear hs HSR
    go_wp2_with fail
    clear r0 r1
    replace P2 := hide P2.out.drew
    replace P3 := hide P3.out.drew
    refine wp_calm (fun w' => Below w.heap.size w w' ∧ Box2 w' w.heap.size 30 (.bool b1) (.slice a1 L1 c1) ∧ Box2 w' (w.heap.size + 1) 30 (.bool b2) (.slice a2 L2 c2) ∧ Box2 w' gq 30 (.bool sq) (.slice mq kq cq) ∧ Box2 w' gr 30 (.bool false) (.slice mr kr cr) ∧ RInt w' (.agg #[.bool sq, .slice mq kq cq]) (sg (b1 != b2) (n1 / n2)) ∧ RInt w' (.agg #[.bool false, .slice mr kr cr]) (sg b1 (n1 % n2))) (fun _ => true) 4 #[false, false, false, false] (by kernel_rfl) rfl rfl ?_
    have HF := hide (And.intro (HB.out.drew) (And.intro (P0.out.drew) (And.intro (P1.out.drew) (And.intro (PQ.out.drew) (And.intro (PR.out.drew) (And.intro (IQ.out.drew) (IR.out.drew)))))))
    generalize w5.drew = w5d at *
    refine Calm.take (i := 0) (v := ?_) (a' := ?_) (l' := #[true, false, false, false]) (d := some 40) rfl (by kernel_rfl) (by kernel_rfl) (by kernel_rfl) (by kernel_rfl) (fun _ _ _ h => h) HF.out rfl ?_ rfl rfl ?_ ?_
    rotate_left
    · intro w' hF; have f10 := hF.2.1.cell0; have f11 := hF.2.1.cell1; have f20 := hF.2.2.1.cell0; have f21 := hF.2.2.1.cell1; have f30 := hF.2.2.2.1.cell0; have f31 := hF.2.2.2.1.cell1; have f40 := hF.2.2.2.2.1.cell0; have f41 := hF.2.2.2.2.1.cell1; clear hF; go_simp; try rfl
    rotate_left
    · simp only [Act.put]; exact rfl
    refine Calm.take (i := 1) (v := ?_) (a' := ?_) (l' := #[true, true, false, false]) (d := some 41) rfl (by kernel_rfl) (by kernel_rfl) (by kernel_rfl) (by kernel_rfl) (fun _ _ _ h => h) HF.out rfl ?_ rfl rfl ?_ ?_
    rotate_left
    · intro w' hF; have f10 := hF.2.1.cell0; have f11 := hF.2.1.cell1; have f20 := hF.2.2.1.cell0; have f21 := hF.2.2.1.cell1; have f30 := hF.2.2.2.1.cell0; have f31 := hF.2.2.2.1.cell1; have f40 := hF.2.2.2.2.1.cell0; have f41 := hF.2.2.2.2.1.cell1; clear hF; go_simp; try rfl
    rotate_left
    · simp only [Act.put]; exact rfl
    refine Calm.one (i := 2) (l' := #[true, true, true, false]) (by kernel_rfl) rfl rfl rfl fun K hK => ?_
    have hc0 := P2.out.cell0
    have hc1 := P2.out.cell1
    have hf0 := P2.out.free 0
    have hf1 := P2.out.free 1
    go_simp
    have HF' := hide (And.intro (below_put HF.out.1 (show w.heap.size ≤ (w.heap.size + 1 + 1) by have hx := LTS.out; omega) (.bool sq) (.slice mq kq cq)) (And.intro (HF.out.2.1.other (C := (w.heap.size + 1 + 1)) (by have hx := LTS.out; omega) (.bool sq) (.slice mq kq cq)) (And.intro (HF.out.2.2.1.other (C := (w.heap.size + 1 + 1)) (by have hx := LTS.out; omega) (.bool sq) (.slice mq kq cq)) (And.intro (HF.out.2.2.2.1.other (C := (w.heap.size + 1 + 1)) (by have hx := LTS.out; omega) (.bool sq) (.slice mq kq cq)) (And.intro (HF.out.2.2.2.2.1.other (C := (w.heap.size + 1 + 1)) (by have hx := LTS.out; omega) (.bool sq) (.slice mq kq cq)) (And.intro (HF.out.2.2.2.2.2.1.keep (P2.out.keeps (by simp) (by simp) (.bool sq) (.slice mq kq cq))) (HF.out.2.2.2.2.2.2.keep (P2.out.keeps (by simp) (by simp) (.bool sq) (.slice mq kq cq)))))))))
    replace P3 := hide (P3.out.other (C := (w.heap.size + 1 + 1)) (by have hx := LTS.out; omega) (.bool sq) (.slice mq kq cq))
    replace P2 := hide (P2.out.put (.bool sq) (.slice mq kq cq))
    refine hK _ _ (fun _ => HF'.out) ?_
    clear hK K HF hc0 hf0 hc1 hf1
    have HF := hide HF'.out
    clear HF'
    generalize ((w5d.setCell ⟨(w.heap.size + 1 + 1), 0, none⟩ (.bool sq)).setCell ⟨(w.heap.size + 1 + 1), 1, none⟩ (.slice mq kq cq)) = wt1 at *
    refine Calm.one (i := 3) (l' := #[true, true, true, true]) (by kernel_rfl) rfl rfl rfl fun K hK => ?_
    have hc0 := P3.out.cell0
    have hc1 := P3.out.cell1
    have hf0 := P3.out.free 0
    have hf1 := P3.out.free 1
    go_simp
    have HF' := hide (And.intro (below_put HF.out.1 (show w.heap.size ≤ (w.heap.size + 1 + 1 + 1) by have hx := LTS.out; omega) (.bool false) (.slice mr kr cr)) (And.intro (HF.out.2.1.other (C := (w.heap.size + 1 + 1 + 1)) (by have hx := LTS.out; omega) (.bool false) (.slice mr kr cr)) (And.intro (HF.out.2.2.1.other (C := (w.heap.size + 1 + 1 + 1)) (by have hx := LTS.out; omega) (.bool false) (.slice mr kr cr)) (And.intro (HF.out.2.2.2.1.other (C := (w.heap.size + 1 + 1 + 1)) (by have hx := LTS.out; omega) (.bool false) (.slice mr kr cr)) (And.intro (HF.out.2.2.2.2.1.other (C := (w.heap.size + 1 + 1 + 1)) (by have hx := LTS.out; omega) (.bool false) (.slice mr kr cr)) (And.intro (HF.out.2.2.2.2.2.1.keep (P3.out.keeps (by simp) (by simp) (.bool false) (.slice mr kr cr))) (HF.out.2.2.2.2.2.2.keep (P3.out.keeps (by simp) (by simp) (.bool false) (.slice mr kr cr)))))))))
    replace P2 := hide (P2.out.other (C := (w.heap.size + 1 + 1 + 1)) (by have hx := LTS.out; omega) (.bool false) (.slice mr kr cr))
    replace P3 := hide (P3.out.put (.bool false) (.slice mr kr cr))
    refine hK _ _ (fun _ => HF'.out) ?_
    clear hK K HF hc0 hf0 hc1 hf1
    have HF := hide HF'.out
    clear HF'
    generalize ((wt1.setCell ⟨(w.heap.size + 1 + 1 + 1), 0, none⟩ (.bool false)).setCell ⟨(w.heap.size + 1 + 1 + 1), 1, none⟩ (.slice mr kr cr)) = wt2 at *
    refine Calm.done (by kernel_rfl) ?_
    go_wp2
    refine ret_two rfl (w.heap.size + 1 + 1) (w.heap.size + 1 + 1 + 1) _ _ _ _ rfl rfl P2.out P3.out rfl ?_
    exact ⟨_, _, rfl, (div_plain b1 b2 n1 n2 hy (by have := HS.out; omega)).1 ▸ HF.out.2.2.2.2.2.1, (div_plain b1 b2 n1 n2 hy (by have := HS.out; omega)).2 ▸ HF.out.2.2.2.2.2.2, HF.out.1⟩
end Go.Proofs.Ytnldhpleicpjfaa

namespace Go.Proofs.Ytnldhpleicpjfaa
open Go.RowKit

theorem ret_rover {fn : Func} {R : Ending → World → Prop} {a : Act} {w : World} {p u : Tmp} (h : fn.results = #[.cell p 30, .tmp u]) (g : Nat) (x y : Value)
    (hp : a.tmps.getD p undef = .pointer (some ⟨g, 0, none⟩)) (hg : Box2 w g 30 x y) (hd : a.defers = []) (hR : R (.returned (.tuple #[.agg #[x, y], a.tmps.getD u undef])) w) : bodyPost Try.prog fn R .ret a w := by
  refine bodyPost_ret ?_ hd hR
  have hp' : a.tmps[p]?.getD undef = .pointer (some ⟨g, 0, none⟩) := by simpa using hp
  simp [results, h, hp', asAddr, run_loadVar_row w g 30 30 #[x, y] (0, 0) _ hg Try.underlying30 rfl Try.infoRef]
theorem rint_zero (w : World) : RInt w (.agg #[.bool false, .slice none 0 0]) 0 := ⟨false, 0, none, 0, rfl, Nums.nil_mk _ _ _ (Nat.zero_le _), rfl, fun _ => rfl⟩
theorem RInt.len {w : World} {s : Bool} {m : Option Addr} {n c : Nat} {z : Int} (h : RInt w (.agg #[.bool s, .slice m n c]) z) : (z = 0 → n = 0) ∧ (z ≠ 0 → 0 < n) ∧ c ≤ maxLen ∧ n ≤ c := by
  obtain ⟨b, k, a, c', he, hn, rfl, h0⟩ := h
  simp only [Value.agg.injEq, Array.mk.injEq, List.cons.injEq, Value.bool.injEq, Value.slice.injEq, and_true] at he
  obtain ⟨rfl, rfl, rfl, rfl⟩ := he
  obtain ⟨_, a', c'', he, h1, h2, _⟩ := hn
  simp only [Value.slice.injEq] at he
  obtain ⟨_, _, rfl⟩ := he
  refine ⟨fun h => ?_, fun h => ?_, h2, h1⟩
  · have : k = 0 := by have := congrArg Int.natAbs h; rw [sg_abs] at this; simpa using this
    rw [this]; rfl
  · rcases Nat.eq_zero_or_pos k with e | e
    · rw [e, sg_zero] at h; exact absurd rfl h
    · rw [D.lim_pos e]; simp

/-- what Over answers -/
def ROverP (x y : Int) (w : World) (e : Ending) (w' : World) : Prop := ∃ v z b, e = .returned (.tuple #[v, .bool b]) ∧ RInt w' v z ∧ ((x % y ≠ 0 ∧ z = 0 ∧ b = false) ∨ (x % y = 0 ∧ z = x / y ∧ b = true)) ∧ Below w.heap.size w w'

set_option maxRecDepth 100000 in
set_option maxHeartbeats 4000000 in
theorem rover_any (v1 v2 : Value) (x y : Int) (w : World) (h1 : RInt w v1 x) (h2 : RInt w v2 y) (l1 : (D.lim x.natAbs).length ≤ 10000000) (l2 : (D.lim y.natAbs).length ≤ 10000000) (hy : y ≠ 0) :
    Calls Try.prog 19 #[v1, v2] w fun e w' => ROverP x y w e w' := by
  obtain ⟨s1, a1, L1, c1, rfl, i1⟩ := h1.cells
  obtain ⟨s2, a2, L2, c2, rfl, i2⟩ := h2.cells
  have HE := hide (nboxes3 30 w (.bool s1) (.slice a1 L1 c1) (.bool s2) (.slice a2 L2 c2) (.bool false) (.slice none 0 0))
  have I1 := hide (i1.below HE.out.2.2.2)
  have I2 := hide (i2.below HE.out.2.2.2)
  have HB := hide HE.out.2.2.2
  have P2 := hide HE.out.2.2.1
  clear h1 h2 i1 i2 HE
  go_enter Try.func19, Try.ntmps19
  go_wp2_with fail
  refine (rdm_any _ _ x y _ I1.out I2.out l1 l2 hy).mono ?_
  rintro e w1 ⟨q, r, rfl, nq, nr, hb⟩
  obtain ⟨sq, mq, kq, cq, rfl, nq⟩ := nq.cells
  obtain ⟨sr, mr, kr, cr, rfl, nr⟩ := nr.cells
  replace HB := hide (HB.out.trans (hb.mono HB.out.size))
  replace P2 := hide (P2.out.step hb)
  have hal1 := below_alloc w1 (.cells #[.bool sq, .slice mq kq cq] 30)
  have hal2 := below_alloc (w1.alloc (.cells #[.bool sq, .slice mq kq cq] 30)) (.cells #[.bool sr, .slice mr kr cr] 30)
  have hal := hal1.trans (hal2.mono (by rw [World.size_alloc]; omega))
  have LT := hide P2.out.lt
  have PQ := (Box2.new w1 30 (.bool sq) (.slice mq kq cq)).step hal2
  have PR := Box2.new (w1.alloc (.cells #[.bool sq, .slice mq kq cq] 30)) 30 (.bool sr) (.slice mr kr cr)
  rw [World.size_alloc] at PR
  replace HB := hide (HB.out.trans (hal.mono HB.out.size))
  replace P2 := hide (P2.out.step hal)
  have IQ := hide (nq.below hal)
  have HLR := hide nr.len
  replace PQ := hide PQ
  replace PR := hide PR
  clear hb nq nr hal hal1 hal2 I1 I2
  go_upto_region 2 with fail
  generalize (w1.alloc (.cells #[.bool sq, .slice mq kq cq] 30)).alloc (.cells #[.bool sr, .slice mr kr cr] 30) = w2 at *
  generalize w1.heap.size = gq at *
  have hc0 := P2.out.cell0
  have hc1 := P2.out.cell1
  have hf0 := P2.out.free 0
  have hf1 := P2.out.free 1
  have r1 := PR.out.cell1
  have hcr := HLR.out.2.2.1
  have hkr := HLR.out.2.2.2
  unfold maxLen at hcr
  by_cases hz : x % y = 0
  · have HZ := hide hz
    have hk0 := HLR.out.1 hz
    subst hk0
    have q0 := PQ.out.cell0
    have q1 := PQ.out.cell1
    clear hz
    go_wp2
    refine ret_rover rfl (w.heap.size + 1 + 1) _ _ rfl (P2.out.put _ _) rfl ?_
    unfold ROverP
    exact ⟨_, _, _, rfl, IQ.out.keep (P2.out.keeps (by simp) (by simp) _ _), .inr ⟨HZ.out, rfl, rfl⟩, below_put HB.out (by omega) _ _⟩
  · have HZ := hide hz
    have hkp := HLR.out.2.1 hz
    clear hz
    go_wp2
    refine ret_rover rfl (w.heap.size + 1 + 1) _ _ rfl (P2.out.put _ _) rfl ?_
    unfold ROverP
    exact ⟨_, _, _, rfl, rint_zero _, .inl ⟨HZ.out, rfl, rfl⟩, below_put HB.out (by omega) _ _⟩
end Go.Proofs.Ytnldhpleicpjfaa

namespace Go.Proofs.Ytnldhpleicpjfaa
open Go.RowKit

/-- the number whose digits lie over a slice -/
def dnumOf (w : World) : Value → Nat
  | .slice (some a) n _ => D.val ((List.range n).map fun i => match w.cell? ⟨a.block, a.off + i, none⟩ with
    | some (.int _ z) => z.toNat
    | _ => 0)
  | _ => 0
theorem Nums.dnumOf {w : World} {v : Value} {xs : List Nat} (h : Nums w v xs) : dnumOf w v = D.val xs := by
  rcases h.cases with ⟨rfl, a, cap, rfl, _⟩ | ⟨hpos, b, off, cap, rfl, hl, hm, hb, hc⟩
  · cases a <;> rfl
  · show D.val ((List.range xs.length).map _) = D.val xs
    congr 1
    apply List.ext_getElem (by simp)
    intro i h1 h2
    simp only [List.getElem_map, List.getElem_range]
    rw [hc i h2]
    simp [lm_get _ _ h2]
/-- the number that a variable of the document's holds, without its sign -/
def dnumAt (w : World) (g : Nat) : Nat := dnumOf w ((w.cell? ⟨g, 1, none⟩).getD undef)
theorem dnumAt_eq {w : World} {g : Nat} {s : Bool} {m : Option Addr} {n c k : Nat} (h : Box2 w g 30 (.bool s) (.slice m n c)) (i : RInt w (.agg #[.bool s, .slice m n c]) (k : Int)) : dnumAt w g = k := by
  unfold dnumAt
  rw [h.cell1]
  obtain ⟨b, j, a, c', he, hn, hz, h0⟩ := i
  simp only [Value.agg.injEq, Array.mk.injEq, List.cons.injEq, Value.bool.injEq, Value.slice.injEq, and_true] at he
  obtain ⟨rfl, rfl, rfl, rfl⟩ := he
  rw [Option.getD_some, hn.dnumOf, D.val_lim]
  have := congrArg Int.natAbs hz
  rw [sg_abs] at this
  simpa using this.symm
theorem Box2.drew' {w : World} {g : Nat} {t : TypeId} {x y : Value} (h : Box2 w g t x y) : Box2 w.drew g t x y := h

set_option maxRecDepth 100000 in
set_option maxHeartbeats 8000000 in
theorem rgcd_any (v1 v2 : Value) (x y : Int) (w : World) (h1 : RInt w v1 x) (h2 : RInt w v2 y) (l1 : (D.lim x.natAbs).length ≤ 10000000) (l2 : (D.lim y.natAbs).length ≤ 10000000) :
    Calls Try.prog 8 #[v1, v2] w fun e w' => ∃ v, e = .returned v ∧ RInt w' v (Int.gcd x y : Int) ∧ Below w.heap.size w w' := by
  obtain ⟨s1, a1, L1, c1, rfl, i1⟩ := h1.cells
  obtain ⟨s2, a2, L2, c2, rfl, i2⟩ := h2.cells
  have HE := hide (nboxes3 30 w (.bool s1) (.slice a1 L1 c1) (.bool s2) (.slice a2 L2 c2) (.bool false) (.slice none 0 0))
  have I1 := hide (i1.below HE.out.2.2.2)
  have I2 := hide (i2.below HE.out.2.2.2)
  have HB := hide HE.out.2.2.2
  have P0 := hide HE.out.1
  have P1 := hide HE.out.2.1
  have P2 := hide HE.out.2.2.1
  clear h1 h2 i1 i2 HE
  go_enter Try.func8, Try.ntmps8
  go_wp2_with fail
  generalize ((w.alloc (.cells #[.bool s1, .slice a1 L1 c1] 30)).alloc (.cells #[.bool s2, .slice a2 L2 c2] 30)).alloc (.cells #[.bool false, .slice none 0 0] 30) = w0 at *
  go_cut [5, 6] from 9 (fun pq pr wx => ∃ gq gr sa ma la ka sb mb lb kb, pq = .pointer (some ⟨gq, 0, none⟩) ∧ pr = .pointer (some ⟨gr, 0, none⟩) ∧ (w.heap.size < gq ∧ (w.heap.size + 1) < gq ∧ (w.heap.size + 1 + 1) < gq ∧ w.heap.size < gr ∧ (w.heap.size + 1) < gr ∧ (w.heap.size + 1 + 1) < gr ∧ gq ≠ gr) ∧ Below w.heap.size w wx ∧ Box2 wx (w.heap.size + 1 + 1) 30 (.bool false) (.slice none 0 0) ∧ Box2 wx gq 30 (.bool sa) (.slice ma la ka) ∧ Box2 wx gr 30 (.bool sb) (.slice mb lb kb) ∧ RInt wx (.agg #[.bool sa, .slice ma la ka]) (x.natAbs : Int) ∧ RInt wx (.agg #[.bool sb, .slice mb lb kb]) (y.natAbs : Int))
  case first =>
    refine wp_calm (fun w' => Below w.heap.size w w' ∧ Box2 w' w.heap.size 30 (.bool s1) (.slice a1 L1 c1) ∧ Box2 w' (w.heap.size + 1) 30 (.bool s2) (.slice a2 L2 c2) ∧ Box2 w' (w.heap.size + 1 + 1) 30 (.bool false) (.slice none 0 0) ∧ RInt w' (.agg #[.bool s1, .slice a1 L1 c1]) x ∧ RInt w' (.agg #[.bool s2, .slice a2 L2 c2]) y) (fun _ => true) 8 #[false, false, false, false, false, false, false, false] (by kernel_rfl) rfl rfl ?_
    have HF := hide (And.intro (HB.out.drew) (And.intro (P0.out.drew) (And.intro (P1.out.drew) (And.intro (P2.out.drew) (And.intro (I1.out.drew) (I2.out.drew))))))
    generalize w0.drew = w0d at *
    refine Calm.take (i := 0) (v := ?_) (a' := ?_) (l' := #[true, false, false, false, false, false, false, false]) (d := some 9) rfl (by kernel_rfl) (by kernel_rfl) (by kernel_rfl) (by kernel_rfl) (fun _ _ _ h => h) HF.out rfl ?_ rfl rfl ?_ ?_
    rotate_left
    · intro w' hF; have f10 := hF.2.1.cell0; have f11 := hF.2.1.cell1; have f20 := hF.2.2.1.cell0; have f21 := hF.2.2.1.cell1; have f30 := hF.2.2.2.1.cell0; have f31 := hF.2.2.2.1.cell1; clear hF; go_simp; try rfl
    rotate_left
    · simp only [Act.put]; exact rfl
    refine Calm.take (i := 2) (v := ?_) (a' := ?_) (l' := #[true, false, true, false, false, false, false, false]) (d := some 11) rfl (by kernel_rfl) (by kernel_rfl) (by kernel_rfl) (by kernel_rfl) (fun _ _ _ h => h) HF.out rfl ?_ rfl rfl ?_ ?_
    rotate_left
    · intro w' hF; have f10 := hF.2.1.cell0; have f11 := hF.2.1.cell1; have f20 := hF.2.2.1.cell0; have f21 := hF.2.2.1.cell1; have f30 := hF.2.2.2.1.cell0; have f31 := hF.2.2.2.1.cell1; clear hF; go_simp; try rfl
    rotate_left
    · simp only [Act.put]; exact rfl
    refine Calm.three (i := 1) (j := 4) (m := 5) (l := #[true, true, true, false, false, false, false, false]) (l' := #[true, false, true, false, true, false, false, false]) (l'' := #[true, false, true, false, false, true, false, false]) (by kernel_rfl) rfl rfl rfl rfl rfl rfl rfl rfl rfl (fun K hK => ?_) (fun K hK => ?_) (fun K hK => ?_)
    · go_simp
      refine (rabs_any _ x _ HF.out.2.2.2.2.1).mono ?_
      rintro e u1 ⟨v, rfl, n, hb⟩
      obtain ⟨sa, ma, la, ka, rfl, n⟩ := n.cells
      have HF' := hide (And.intro (HF.out.1.trans ((hb).mono HF.out.1.size)) (And.intro (HF.out.2.1.step (hb)) (And.intro (HF.out.2.2.1.step (hb)) (And.intro (HF.out.2.2.2.1.step (hb)) (And.intro (HF.out.2.2.2.2.1.below (hb)) (HF.out.2.2.2.2.2.below (hb)))))))
      have TA := hide (n)
      refine hK _ _ (fun _ => HF'.out) ?_
      clear hK K HF hb n
      have HF := hide HF'.out
      clear HF'
      refine Calm.three (i := 3) (j := 4) (m := 5) (l := #[true, true, true, true, false, false, false, false]) (l' := #[true, true, true, false, true, false, false, false]) (l'' := #[true, true, true, false, false, true, false, false]) (by kernel_rfl) rfl rfl rfl rfl rfl rfl rfl rfl rfl (fun K hK => ?_) (fun K hK => ?_) (fun K hK => ?_)
      · go_simp
        refine (rabs_any _ y _ HF.out.2.2.2.2.2).mono ?_
        rintro e u2 ⟨v, rfl, n, hb⟩
        obtain ⟨sb, mb, lb, kb, rfl, n⟩ := n.cells
        replace TA := hide (TA.out.below (hb))
        have HF' := hide (And.intro (HF.out.1.trans ((hb).mono HF.out.1.size)) (And.intro (HF.out.2.1.step (hb)) (And.intro (HF.out.2.2.1.step (hb)) (And.intro (HF.out.2.2.2.1.step (hb)) (And.intro (HF.out.2.2.2.2.1.below (hb)) (HF.out.2.2.2.2.2.below (hb)))))))
        have TB := hide (n)
        refine hK _ _ (fun _ => HF'.out) ?_
        clear hK K HF hb n
        have HF := hide HF'.out
        clear HF'
        refine Calm.two (i := 4) (j := 5) (l := #[true, true, true, true, true, false, false, false]) (l' := #[true, true, true, true, false, true, false, false]) (by kernel_rfl) rfl rfl rfl rfl rfl rfl (fun K hK => ?_) (fun K hK => ?_)
        · go_simp
          have al := below_alloc u2 (.cells #[.bool false, .slice none 0 0] 30)
          have HF' := hide (And.intro (HF.out.1.trans ((al).mono HF.out.1.size)) (And.intro (HF.out.2.1.step (al)) (And.intro (HF.out.2.2.1.step (al)) (And.intro (HF.out.2.2.2.1.step (al)) (And.intro (HF.out.2.2.2.2.1.below (al)) (HF.out.2.2.2.2.2.below (al)))))))
          have BXq := hide (Box2.new u2 30 (.bool false) (.slice none 0 0))
          replace TA := hide (TA.out.below (al))
          replace TB := hide (TB.out.below (al))
          have LT1q := hide (HF.out.2.1.lt)
          have LT2q := hide (HF.out.2.2.1.lt)
          have LT3q := hide (HF.out.2.2.2.1.lt)
          have GEq := hide (HF.out.1.size)
          refine hK _ _ (fun _ => HF'.out) ?_
          clear hK K HF al
          have HF := hide HF'.out
          clear HF'
          generalize u2.alloc (.cells #[.bool false, .slice none 0 0] 30) = wzq at *
          generalize u2.heap.size = gq at *
          refine Calm.one (i := 5) (l' := #[true, true, true, true, true, true, false, false]) (by kernel_rfl) rfl rfl rfl fun K hK => ?_
          go_simp
          have al := below_alloc wzq (.cells #[.bool false, .slice none 0 0] 30)
          have HF' := hide (And.intro (HF.out.1.trans ((al).mono HF.out.1.size)) (And.intro (HF.out.2.1.step (al)) (And.intro (HF.out.2.2.1.step (al)) (And.intro (HF.out.2.2.2.1.step (al)) (And.intro (HF.out.2.2.2.2.1.below (al)) (HF.out.2.2.2.2.2.below (al)))))))
          have BXr := hide (Box2.new wzq 30 (.bool false) (.slice none 0 0))
          replace TA := hide (TA.out.below (al))
          replace TB := hide (TB.out.below (al))
          have LTqr := hide (BXq.out.lt)
          replace BXq := hide (BXq.out.step al)
          have LT1r := hide (HF.out.2.1.lt)
          have LT2r := hide (HF.out.2.2.1.lt)
          have LT3r := hide (HF.out.2.2.2.1.lt)
          have GEr := hide (HF.out.1.size)
          refine hK _ _ (fun _ => HF'.out) ?_
          clear hK K HF al
          have HF := hide HF'.out
          clear HF'
          generalize wzq.alloc (.cells #[.bool false, .slice none 0 0] 30) = wzr at *
          generalize wzq.heap.size = gr at *
          refine Calm.one (i := 6) (l' := #[true, true, true, true, true, true, true, false]) (by kernel_rfl) rfl rfl rfl fun K hK => ?_
          have LTS := hide (And.intro LT1q.out (And.intro LT2q.out (And.intro LT3q.out (And.intro LT1r.out (And.intro LT2r.out (And.intro LT3r.out (show gq ≠ gr by first | exact Nat.ne_of_lt LTqr.out | exact Nat.ne_of_gt LTrq.out)))))))
          have hc0 := BXq.out.cell0
          have hc1 := BXq.out.cell1
          have hf0 := BXq.out.free 0
          have hf1 := BXq.out.free 1
          go_simp
          have HF' := hide (And.intro (below_put HF.out.1 (show w.heap.size ≤ gq by have hx := LTS.out; omega) (.bool sa) (.slice ma la ka)) (And.intro (HF.out.2.1.other (C := gq) (by have hx := LTS.out; omega) (.bool sa) (.slice ma la ka)) (And.intro (HF.out.2.2.1.other (C := gq) (by have hx := LTS.out; omega) (.bool sa) (.slice ma la ka)) (And.intro (HF.out.2.2.2.1.other (C := gq) (by have hx := LTS.out; omega) (.bool sa) (.slice ma la ka)) (And.intro (HF.out.2.2.2.2.1.keep (BXq.out.keeps (by simp) (by simp) (.bool sa) (.slice ma la ka))) (HF.out.2.2.2.2.2.keep (BXq.out.keeps (by simp) (by simp) (.bool sa) (.slice ma la ka))))))))
          replace TA := hide (TA.out.keep (BXq.out.keeps (by simp) (by simp) (.bool sa) (.slice ma la ka)))
          replace TB := hide (TB.out.keep (BXq.out.keeps (by simp) (by simp) (.bool sa) (.slice ma la ka)))
          replace BXr := hide (BXr.out.other (C := gq) (by have hx := LTS.out; omega) (.bool sa) (.slice ma la ka))
          replace BXq := hide (BXq.out.put (.bool sa) (.slice ma la ka))
          refine hK _ _ (fun _ => HF'.out) ?_
          clear hK K HF hc0 hf0 hc1 hf1
          have HF := hide HF'.out
          clear HF'
          generalize ((wzr.setCell ⟨gq, 0, none⟩ (.bool sa)).setCell ⟨gq, 1, none⟩ (.slice ma la ka)) = ws1 at *
          refine Calm.one (i := 7) (l' := #[true, true, true, true, true, true, true, true]) (by kernel_rfl) rfl rfl rfl fun K hK => ?_
          have hc0 := BXr.out.cell0
          have hc1 := BXr.out.cell1
          have hf0 := BXr.out.free 0
          have hf1 := BXr.out.free 1
          go_simp
          have HF' := hide (And.intro (below_put HF.out.1 (show w.heap.size ≤ gr by have hx := LTS.out; omega) (.bool sb) (.slice mb lb kb)) (And.intro (HF.out.2.1.other (C := gr) (by have hx := LTS.out; omega) (.bool sb) (.slice mb lb kb)) (And.intro (HF.out.2.2.1.other (C := gr) (by have hx := LTS.out; omega) (.bool sb) (.slice mb lb kb)) (And.intro (HF.out.2.2.2.1.other (C := gr) (by have hx := LTS.out; omega) (.bool sb) (.slice mb lb kb)) (And.intro (HF.out.2.2.2.2.1.keep (BXr.out.keeps (by simp) (by simp) (.bool sb) (.slice mb lb kb))) (HF.out.2.2.2.2.2.keep (BXr.out.keeps (by simp) (by simp) (.bool sb) (.slice mb lb kb))))))))
          replace TA := hide (TA.out.keep (BXr.out.keeps (by simp) (by simp) (.bool sb) (.slice mb lb kb)))
          replace TB := hide (TB.out.keep (BXr.out.keeps (by simp) (by simp) (.bool sb) (.slice mb lb kb)))
          replace BXq := hide (BXq.out.other (C := gr) (by have hx := LTS.out; omega) (.bool sb) (.slice mb lb kb))
          replace BXr := hide (BXr.out.put (.bool sb) (.slice mb lb kb))
          refine hK _ _ (fun _ => HF'.out) ?_
          clear hK K HF hc0 hf0 hc1 hf1
          have HF := hide HF'.out
          clear HF'
          generalize ((ws1.setCell ⟨gr, 0, none⟩ (.bool sb)).setCell ⟨gr, 1, none⟩ (.slice mb lb kb)) = ws2 at *
          refine Calm.done (by kernel_rfl) ?_
          go_wp2
          go_meet
          case rel => exact ⟨gq, gr, sa, ma, la, ka, sb, mb, lb, kb, rfl, rfl, LTS.out, HF.out.1, HF.out.2.2.2.1, BXq.out, BXr.out, TA.out, TB.out⟩
        · go_simp
          have al := below_alloc u2 (.cells #[.bool false, .slice none 0 0] 30)
          have HF' := hide (And.intro (HF.out.1.trans ((al).mono HF.out.1.size)) (And.intro (HF.out.2.1.step (al)) (And.intro (HF.out.2.2.1.step (al)) (And.intro (HF.out.2.2.2.1.step (al)) (And.intro (HF.out.2.2.2.2.1.below (al)) (HF.out.2.2.2.2.2.below (al)))))))
          have BXr := hide (Box2.new u2 30 (.bool false) (.slice none 0 0))
          replace TA := hide (TA.out.below (al))
          replace TB := hide (TB.out.below (al))
          have LT1r := hide (HF.out.2.1.lt)
          have LT2r := hide (HF.out.2.2.1.lt)
          have LT3r := hide (HF.out.2.2.2.1.lt)
          have GEr := hide (HF.out.1.size)
          refine hK _ _ (fun _ => HF'.out) ?_
          clear hK K HF al
          have HF := hide HF'.out
          clear HF'
          generalize u2.alloc (.cells #[.bool false, .slice none 0 0] 30) = wzr at *
          generalize u2.heap.size = gr at *
          refine Calm.one (i := 4) (l' := #[true, true, true, true, true, true, false, false]) (by kernel_rfl) rfl rfl rfl fun K hK => ?_
          go_simp
          have al := below_alloc wzr (.cells #[.bool false, .slice none 0 0] 30)
          have HF' := hide (And.intro (HF.out.1.trans ((al).mono HF.out.1.size)) (And.intro (HF.out.2.1.step (al)) (And.intro (HF.out.2.2.1.step (al)) (And.intro (HF.out.2.2.2.1.step (al)) (And.intro (HF.out.2.2.2.2.1.below (al)) (HF.out.2.2.2.2.2.below (al)))))))
          have BXq := hide (Box2.new wzr 30 (.bool false) (.slice none 0 0))
          replace TA := hide (TA.out.below (al))
          replace TB := hide (TB.out.below (al))
          have LTrq := hide (BXr.out.lt)
          replace BXr := hide (BXr.out.step al)
          have LT1q := hide (HF.out.2.1.lt)
          have LT2q := hide (HF.out.2.2.1.lt)
          have LT3q := hide (HF.out.2.2.2.1.lt)
          have GEq := hide (HF.out.1.size)
          refine hK _ _ (fun _ => HF'.out) ?_
          clear hK K HF al
          have HF := hide HF'.out
          clear HF'
          generalize wzr.alloc (.cells #[.bool false, .slice none 0 0] 30) = wzq at *
          generalize wzr.heap.size = gq at *
          refine Calm.one (i := 6) (l' := #[true, true, true, true, true, true, true, false]) (by kernel_rfl) rfl rfl rfl fun K hK => ?_
          have LTS := hide (And.intro LT1q.out (And.intro LT2q.out (And.intro LT3q.out (And.intro LT1r.out (And.intro LT2r.out (And.intro LT3r.out (show gq ≠ gr by first | exact Nat.ne_of_lt LTqr.out | exact Nat.ne_of_gt LTrq.out)))))))
          have hc0 := BXq.out.cell0
          have hc1 := BXq.out.cell1
          have hf0 := BXq.out.free 0
          have hf1 := BXq.out.free 1
          go_simp
          have HF' := hide (And.intro (below_put HF.out.1 (show w.heap.size ≤ gq by have hx := LTS.out; omega) (.bool sa) (.slice ma la ka)) (And.intro (HF.out.2.1.other (C := gq) (by have hx := LTS.out; omega) (.bool sa) (.slice ma la ka)) (And.intro (HF.out.2.2.1.other (C := gq) (by have hx := LTS.out; omega) (.bool sa) (.slice ma la ka)) (And.intro (HF.out.2.2.2.1.other (C := gq) (by have hx := LTS.out; omega) (.bool sa) (.slice ma la ka)) (And.intro (HF.out.2.2.2.2.1.keep (BXq.out.keeps (by simp) (by simp) (.bool sa) (.slice ma la ka))) (HF.out.2.2.2.2.2.keep (BXq.out.keeps (by simp) (by simp) (.bool sa) (.slice ma la ka))))))))
          replace TA := hide (TA.out.keep (BXq.out.keeps (by simp) (by simp) (.bool sa) (.slice ma la ka)))
          replace TB := hide (TB.out.keep (BXq.out.keeps (by simp) (by simp) (.bool sa) (.slice ma la ka)))
          replace BXr := hide (BXr.out.other (C := gq) (by have hx := LTS.out; omega) (.bool sa) (.slice ma la ka))
          replace BXq := hide (BXq.out.put (.bool sa) (.slice ma la ka))
          refine hK _ _ (fun _ => HF'.out) ?_
          clear hK K HF hc0 hf0 hc1 hf1
          have HF := hide HF'.out
          clear HF'
          generalize ((wzq.setCell ⟨gq, 0, none⟩ (.bool sa)).setCell ⟨gq, 1, none⟩ (.slice ma la ka)) = ws1 at *
          refine Calm.one (i := 7) (l' := #[true, true, true, true, true, true, true, true]) (by kernel_rfl) rfl rfl rfl fun K hK => ?_
          have hc0 := BXr.out.cell0
          have hc1 := BXr.out.cell1
          have hf0 := BXr.out.free 0
          have hf1 := BXr.out.free 1
          go_simp
          have HF' := hide (And.intro (below_put HF.out.1 (show w.heap.size ≤ gr by have hx := LTS.out; omega) (.bool sb) (.slice mb lb kb)) (And.intro (HF.out.2.1.other (C := gr) (by have hx := LTS.out; omega) (.bool sb) (.slice mb lb kb)) (And.intro (HF.out.2.2.1.other (C := gr) (by have hx := LTS.out; omega) (.bool sb) (.slice mb lb kb)) (And.intro (HF.out.2.2.2.1.other (C := gr) (by have hx := LTS.out; omega) (.bool sb) (.slice mb lb kb)) (And.intro (HF.out.2.2.2.2.1.keep (BXr.out.keeps (by simp) (by simp) (.bool sb) (.slice mb lb kb))) (HF.out.2.2.2.2.2.keep (BXr.out.keeps (by simp) (by simp) (.bool sb) (.slice mb lb kb))))))))
          replace TA := hide (TA.out.keep (BXr.out.keeps (by simp) (by simp) (.bool sb) (.slice mb lb kb)))
          replace TB := hide (TB.out.keep (BXr.out.keeps (by simp) (by simp) (.bool sb) (.slice mb lb kb)))
          replace BXq := hide (BXq.out.other (C := gr) (by have hx := LTS.out; omega) (.bool sb) (.slice mb lb kb))
          replace BXr := hide (BXr.out.put (.bool sb) (.slice mb lb kb))
          refine hK _ _ (fun _ => HF'.out) ?_
          clear hK K HF hc0 hf0 hc1 hf1
          have HF := hide HF'.out
          clear HF'
          generalize ((ws1.setCell ⟨gr, 0, none⟩ (.bool sb)).setCell ⟨gr, 1, none⟩ (.slice mb lb kb)) = ws2 at *
          refine Calm.done (by kernel_rfl) ?_
          go_wp2
          go_meet
          case rel => exact ⟨gq, gr, sa, ma, la, ka, sb, mb, lb, kb, rfl, rfl, LTS.out, HF.out.1, HF.out.2.2.2.1, BXq.out, BXr.out, TA.out, TB.out⟩
      · go_simp
        have al := below_alloc u1 (.cells #[.bool false, .slice none 0 0] 30)
        have HF' := hide (And.intro (HF.out.1.trans ((al).mono HF.out.1.size)) (And.intro (HF.out.2.1.step (al)) (And.intro (HF.out.2.2.1.step (al)) (And.intro (HF.out.2.2.2.1.step (al)) (And.intro (HF.out.2.2.2.2.1.below (al)) (HF.out.2.2.2.2.2.below (al)))))))
        have BXq := hide (Box2.new u1 30 (.bool false) (.slice none 0 0))
        replace TA := hide (TA.out.below (al))
        have LT1q := hide (HF.out.2.1.lt)
        have LT2q := hide (HF.out.2.2.1.lt)
        have LT3q := hide (HF.out.2.2.2.1.lt)
        have GEq := hide (HF.out.1.size)
        refine hK _ _ (fun _ => HF'.out) ?_
        clear hK K HF al
        have HF := hide HF'.out
        clear HF'
        generalize u1.alloc (.cells #[.bool false, .slice none 0 0] 30) = wzq at *
        generalize u1.heap.size = gq at *
        refine Calm.two (i := 3) (j := 5) (l := #[true, true, true, true, true, false, false, false]) (l' := #[true, true, true, false, true, true, false, false]) (by kernel_rfl) rfl rfl rfl rfl rfl rfl (fun K hK => ?_) (fun K hK => ?_)
        · go_simp
          refine (rabs_any _ y _ HF.out.2.2.2.2.2).mono ?_
          rintro e u2 ⟨v, rfl, n, hb⟩
          obtain ⟨sb, mb, lb, kb, rfl, n⟩ := n.cells
          replace TA := hide (TA.out.below (hb))
          replace BXq := hide (BXq.out.step hb)
          have HF' := hide (And.intro (HF.out.1.trans ((hb).mono HF.out.1.size)) (And.intro (HF.out.2.1.step (hb)) (And.intro (HF.out.2.2.1.step (hb)) (And.intro (HF.out.2.2.2.1.step (hb)) (And.intro (HF.out.2.2.2.2.1.below (hb)) (HF.out.2.2.2.2.2.below (hb)))))))
          have TB := hide (n)
          refine hK _ _ (fun _ => HF'.out) ?_
          clear hK K HF hb n
          have HF := hide HF'.out
          clear HF'
          refine Calm.one (i := 5) (l' := #[true, true, true, true, true, true, false, false]) (by kernel_rfl) rfl rfl rfl fun K hK => ?_
          go_simp
          have al := below_alloc u2 (.cells #[.bool false, .slice none 0 0] 30)
          have HF' := hide (And.intro (HF.out.1.trans ((al).mono HF.out.1.size)) (And.intro (HF.out.2.1.step (al)) (And.intro (HF.out.2.2.1.step (al)) (And.intro (HF.out.2.2.2.1.step (al)) (And.intro (HF.out.2.2.2.2.1.below (al)) (HF.out.2.2.2.2.2.below (al)))))))
          have BXr := hide (Box2.new u2 30 (.bool false) (.slice none 0 0))
          replace TA := hide (TA.out.below (al))
          replace TB := hide (TB.out.below (al))
          have LTqr := hide (BXq.out.lt)
          replace BXq := hide (BXq.out.step al)
          have LT1r := hide (HF.out.2.1.lt)
          have LT2r := hide (HF.out.2.2.1.lt)
          have LT3r := hide (HF.out.2.2.2.1.lt)
          have GEr := hide (HF.out.1.size)
          refine hK _ _ (fun _ => HF'.out) ?_
          clear hK K HF al
          have HF := hide HF'.out
          clear HF'
          generalize u2.alloc (.cells #[.bool false, .slice none 0 0] 30) = wzr at *
          generalize u2.heap.size = gr at *
          refine Calm.one (i := 6) (l' := #[true, true, true, true, true, true, true, false]) (by kernel_rfl) rfl rfl rfl fun K hK => ?_
          have LTS := hide (And.intro LT1q.out (And.intro LT2q.out (And.intro LT3q.out (And.intro LT1r.out (And.intro LT2r.out (And.intro LT3r.out (show gq ≠ gr by first | exact Nat.ne_of_lt LTqr.out | exact Nat.ne_of_gt LTrq.out)))))))
          have hc0 := BXq.out.cell0
          have hc1 := BXq.out.cell1
          have hf0 := BXq.out.free 0
          have hf1 := BXq.out.free 1
          go_simp
          have HF' := hide (And.intro (below_put HF.out.1 (show w.heap.size ≤ gq by have hx := LTS.out; omega) (.bool sa) (.slice ma la ka)) (And.intro (HF.out.2.1.other (C := gq) (by have hx := LTS.out; omega) (.bool sa) (.slice ma la ka)) (And.intro (HF.out.2.2.1.other (C := gq) (by have hx := LTS.out; omega) (.bool sa) (.slice ma la ka)) (And.intro (HF.out.2.2.2.1.other (C := gq) (by have hx := LTS.out; omega) (.bool sa) (.slice ma la ka)) (And.intro (HF.out.2.2.2.2.1.keep (BXq.out.keeps (by simp) (by simp) (.bool sa) (.slice ma la ka))) (HF.out.2.2.2.2.2.keep (BXq.out.keeps (by simp) (by simp) (.bool sa) (.slice ma la ka))))))))
          replace TA := hide (TA.out.keep (BXq.out.keeps (by simp) (by simp) (.bool sa) (.slice ma la ka)))
          replace TB := hide (TB.out.keep (BXq.out.keeps (by simp) (by simp) (.bool sa) (.slice ma la ka)))
          replace BXr := hide (BXr.out.other (C := gq) (by have hx := LTS.out; omega) (.bool sa) (.slice ma la ka))
          replace BXq := hide (BXq.out.put (.bool sa) (.slice ma la ka))
          refine hK _ _ (fun _ => HF'.out) ?_
          clear hK K HF hc0 hf0 hc1 hf1
          have HF := hide HF'.out
          clear HF'
          generalize ((wzr.setCell ⟨gq, 0, none⟩ (.bool sa)).setCell ⟨gq, 1, none⟩ (.slice ma la ka)) = ws1 at *
          refine Calm.one (i := 7) (l' := #[true, true, true, true, true, true, true, true]) (by kernel_rfl) rfl rfl rfl fun K hK => ?_
          have hc0 := BXr.out.cell0
          have hc1 := BXr.out.cell1
          have hf0 := BXr.out.free 0
          have hf1 := BXr.out.free 1
          go_simp
          have HF' := hide (And.intro (below_put HF.out.1 (show w.heap.size ≤ gr by have hx := LTS.out; omega) (.bool sb) (.slice mb lb kb)) (And.intro (HF.out.2.1.other (C := gr) (by have hx := LTS.out; omega) (.bool sb) (.slice mb lb kb)) (And.intro (HF.out.2.2.1.other (C := gr) (by have hx := LTS.out; omega) (.bool sb) (.slice mb lb kb)) (And.intro (HF.out.2.2.2.1.other (C := gr) (by have hx := LTS.out; omega) (.bool sb) (.slice mb lb kb)) (And.intro (HF.out.2.2.2.2.1.keep (BXr.out.keeps (by simp) (by simp) (.bool sb) (.slice mb lb kb))) (HF.out.2.2.2.2.2.keep (BXr.out.keeps (by simp) (by simp) (.bool sb) (.slice mb lb kb))))))))
          replace TA := hide (TA.out.keep (BXr.out.keeps (by simp) (by simp) (.bool sb) (.slice mb lb kb)))
          replace TB := hide (TB.out.keep (BXr.out.keeps (by simp) (by simp) (.bool sb) (.slice mb lb kb)))
          replace BXq := hide (BXq.out.other (C := gr) (by have hx := LTS.out; omega) (.bool sb) (.slice mb lb kb))
          replace BXr := hide (BXr.out.put (.bool sb) (.slice mb lb kb))
          refine hK _ _ (fun _ => HF'.out) ?_
          clear hK K HF hc0 hf0 hc1 hf1
          have HF := hide HF'.out
          clear HF'
          generalize ((ws1.setCell ⟨gr, 0, none⟩ (.bool sb)).setCell ⟨gr, 1, none⟩ (.slice mb lb kb)) = ws2 at *
          refine Calm.done (by kernel_rfl) ?_
          go_wp2
          go_meet
          case rel => exact ⟨gq, gr, sa, ma, la, ka, sb, mb, lb, kb, rfl, rfl, LTS.out, HF.out.1, HF.out.2.2.2.1, BXq.out, BXr.out, TA.out, TB.out⟩
        · go_simp
          have al := below_alloc wzq (.cells #[.bool false, .slice none 0 0] 30)
          have HF' := hide (And.intro (HF.out.1.trans ((al).mono HF.out.1.size)) (And.intro (HF.out.2.1.step (al)) (And.intro (HF.out.2.2.1.step (al)) (And.intro (HF.out.2.2.2.1.step (al)) (And.intro (HF.out.2.2.2.2.1.below (al)) (HF.out.2.2.2.2.2.below (al)))))))
          have BXr := hide (Box2.new wzq 30 (.bool false) (.slice none 0 0))
          replace TA := hide (TA.out.below (al))
          have LTqr := hide (BXq.out.lt)
          replace BXq := hide (BXq.out.step al)
          have LT1r := hide (HF.out.2.1.lt)
          have LT2r := hide (HF.out.2.2.1.lt)
          have LT3r := hide (HF.out.2.2.2.1.lt)
          have GEr := hide (HF.out.1.size)
          refine hK _ _ (fun _ => HF'.out) ?_
          clear hK K HF al
          have HF := hide HF'.out
          clear HF'
          generalize wzq.alloc (.cells #[.bool false, .slice none 0 0] 30) = wzr at *
          generalize wzq.heap.size = gr at *
          refine Calm.one (i := 3) (l' := #[true, true, true, true, true, true, false, false]) (by kernel_rfl) rfl rfl rfl fun K hK => ?_
          go_simp
          refine (rabs_any _ y _ HF.out.2.2.2.2.2).mono ?_
          rintro e u2 ⟨v, rfl, n, hb⟩
          obtain ⟨sb, mb, lb, kb, rfl, n⟩ := n.cells
          replace TA := hide (TA.out.below (hb))
          replace BXq := hide (BXq.out.step hb)
          replace BXr := hide (BXr.out.step hb)
          have HF' := hide (And.intro (HF.out.1.trans ((hb).mono HF.out.1.size)) (And.intro (HF.out.2.1.step (hb)) (And.intro (HF.out.2.2.1.step (hb)) (And.intro (HF.out.2.2.2.1.step (hb)) (And.intro (HF.out.2.2.2.2.1.below (hb)) (HF.out.2.2.2.2.2.below (hb)))))))
          have TB := hide (n)
          refine hK _ _ (fun _ => HF'.out) ?_
          clear hK K HF hb n
          have HF := hide HF'.out
          clear HF'
          refine Calm.one (i := 6) (l' := #[true, true, true, true, true, true, true, false]) (by kernel_rfl) rfl rfl rfl fun K hK => ?_
          have LTS := hide (And.intro LT1q.out (And.intro LT2q.out (And.intro LT3q.out (And.intro LT1r.out (And.intro LT2r.out (And.intro LT3r.out (show gq ≠ gr by first | exact Nat.ne_of_lt LTqr.out | exact Nat.ne_of_gt LTrq.out)))))))
          have hc0 := BXq.out.cell0
          have hc1 := BXq.out.cell1
          have hf0 := BXq.out.free 0
          have hf1 := BXq.out.free 1
          go_simp
          have HF' := hide (And.intro (below_put HF.out.1 (show w.heap.size ≤ gq by have hx := LTS.out; omega) (.bool sa) (.slice ma la ka)) (And.intro (HF.out.2.1.other (C := gq) (by have hx := LTS.out; omega) (.bool sa) (.slice ma la ka)) (And.intro (HF.out.2.2.1.other (C := gq) (by have hx := LTS.out; omega) (.bool sa) (.slice ma la ka)) (And.intro (HF.out.2.2.2.1.other (C := gq) (by have hx := LTS.out; omega) (.bool sa) (.slice ma la ka)) (And.intro (HF.out.2.2.2.2.1.keep (BXq.out.keeps (by simp) (by simp) (.bool sa) (.slice ma la ka))) (HF.out.2.2.2.2.2.keep (BXq.out.keeps (by simp) (by simp) (.bool sa) (.slice ma la ka))))))))
          replace TA := hide (TA.out.keep (BXq.out.keeps (by simp) (by simp) (.bool sa) (.slice ma la ka)))
          replace TB := hide (TB.out.keep (BXq.out.keeps (by simp) (by simp) (.bool sa) (.slice ma la ka)))
          replace BXr := hide (BXr.out.other (C := gq) (by have hx := LTS.out; omega) (.bool sa) (.slice ma la ka))
          replace BXq := hide (BXq.out.put (.bool sa) (.slice ma la ka))
          refine hK _ _ (fun _ => HF'.out) ?_
          clear hK K HF hc0 hf0 hc1 hf1
          have HF := hide HF'.out
          clear HF'
          generalize ((u2.setCell ⟨gq, 0, none⟩ (.bool sa)).setCell ⟨gq, 1, none⟩ (.slice ma la ka)) = ws1 at *
          refine Calm.one (i := 7) (l' := #[true, true, true, true, true, true, true, true]) (by kernel_rfl) rfl rfl rfl fun K hK => ?_
          have hc0 := BXr.out.cell0
          have hc1 := BXr.out.cell1
          have hf0 := BXr.out.free 0
          have hf1 := BXr.out.free 1
          go_simp
          have HF' := hide (And.intro (below_put HF.out.1 (show w.heap.size ≤ gr by have hx := LTS.out; omega) (.bool sb) (.slice mb lb kb)) (And.intro (HF.out.2.1.other (C := gr) (by have hx := LTS.out; omega) (.bool sb) (.slice mb lb kb)) (And.intro (HF.out.2.2.1.other (C := gr) (by have hx := LTS.out; omega) (.bool sb) (.slice mb lb kb)) (And.intro (HF.out.2.2.2.1.other (C := gr) (by have hx := LTS.out; omega) (.bool sb) (.slice mb lb kb)) (And.intro (HF.out.2.2.2.2.1.keep (BXr.out.keeps (by simp) (by simp) (.bool sb) (.slice mb lb kb))) (HF.out.2.2.2.2.2.keep (BXr.out.keeps (by simp) (by simp) (.bool sb) (.slice mb lb kb))))))))
          replace TA := hide (TA.out.keep (BXr.out.keeps (by simp) (by simp) (.bool sb) (.slice mb lb kb)))
          replace TB := hide (TB.out.keep (BXr.out.keeps (by simp) (by simp) (.bool sb) (.slice mb lb kb)))
          replace BXq := hide (BXq.out.other (C := gr) (by have hx := LTS.out; omega) (.bool sb) (.slice mb lb kb))
          replace BXr := hide (BXr.out.put (.bool sb) (.slice mb lb kb))
          refine hK _ _ (fun _ => HF'.out) ?_
          clear hK K HF hc0 hf0 hc1 hf1
          have HF := hide HF'.out
          clear HF'
          generalize ((ws1.setCell ⟨gr, 0, none⟩ (.bool sb)).setCell ⟨gr, 1, none⟩ (.slice mb lb kb)) = ws2 at *
          refine Calm.done (by kernel_rfl) ?_
          go_wp2
          go_meet
          case rel => exact ⟨gq, gr, sa, ma, la, ka, sb, mb, lb, kb, rfl, rfl, LTS.out, HF.out.1, HF.out.2.2.2.1, BXq.out, BXr.out, TA.out, TB.out⟩
      · go_simp
        have al := below_alloc u1 (.cells #[.bool false, .slice none 0 0] 30)
        have HF' := hide (And.intro (HF.out.1.trans ((al).mono HF.out.1.size)) (And.intro (HF.out.2.1.step (al)) (And.intro (HF.out.2.2.1.step (al)) (And.intro (HF.out.2.2.2.1.step (al)) (And.intro (HF.out.2.2.2.2.1.below (al)) (HF.out.2.2.2.2.2.below (al)))))))
        have BXr := hide (Box2.new u1 30 (.bool false) (.slice none 0 0))
        replace TA := hide (TA.out.below (al))
        have LT1r := hide (HF.out.2.1.lt)
        have LT2r := hide (HF.out.2.2.1.lt)
        have LT3r := hide (HF.out.2.2.2.1.lt)
        have GEr := hide (HF.out.1.size)
        refine hK _ _ (fun _ => HF'.out) ?_
        clear hK K HF al
        have HF := hide HF'.out
        clear HF'
        generalize u1.alloc (.cells #[.bool false, .slice none 0 0] 30) = wzr at *
        generalize u1.heap.size = gr at *
        refine Calm.two (i := 3) (j := 4) (l := #[true, true, true, true, false, true, false, false]) (l' := #[true, true, true, false, true, true, false, false]) (by kernel_rfl) rfl rfl rfl rfl rfl rfl (fun K hK => ?_) (fun K hK => ?_)
        · go_simp
          refine (rabs_any _ y _ HF.out.2.2.2.2.2).mono ?_
          rintro e u2 ⟨v, rfl, n, hb⟩
          obtain ⟨sb, mb, lb, kb, rfl, n⟩ := n.cells
          replace TA := hide (TA.out.below (hb))
          replace BXr := hide (BXr.out.step hb)
          have HF' := hide (And.intro (HF.out.1.trans ((hb).mono HF.out.1.size)) (And.intro (HF.out.2.1.step (hb)) (And.intro (HF.out.2.2.1.step (hb)) (And.intro (HF.out.2.2.2.1.step (hb)) (And.intro (HF.out.2.2.2.2.1.below (hb)) (HF.out.2.2.2.2.2.below (hb)))))))
          have TB := hide (n)
          refine hK _ _ (fun _ => HF'.out) ?_
          clear hK K HF hb n
          have HF := hide HF'.out
          clear HF'
          refine Calm.one (i := 4) (l' := #[true, true, true, true, true, true, false, false]) (by kernel_rfl) rfl rfl rfl fun K hK => ?_
          go_simp
          have al := below_alloc u2 (.cells #[.bool false, .slice none 0 0] 30)
          have HF' := hide (And.intro (HF.out.1.trans ((al).mono HF.out.1.size)) (And.intro (HF.out.2.1.step (al)) (And.intro (HF.out.2.2.1.step (al)) (And.intro (HF.out.2.2.2.1.step (al)) (And.intro (HF.out.2.2.2.2.1.below (al)) (HF.out.2.2.2.2.2.below (al)))))))
          have BXq := hide (Box2.new u2 30 (.bool false) (.slice none 0 0))
          replace TA := hide (TA.out.below (al))
          replace TB := hide (TB.out.below (al))
          have LTrq := hide (BXr.out.lt)
          replace BXr := hide (BXr.out.step al)
          have LT1q := hide (HF.out.2.1.lt)
          have LT2q := hide (HF.out.2.2.1.lt)
          have LT3q := hide (HF.out.2.2.2.1.lt)
          have GEq := hide (HF.out.1.size)
          refine hK _ _ (fun _ => HF'.out) ?_
          clear hK K HF al
          have HF := hide HF'.out
          clear HF'
          generalize u2.alloc (.cells #[.bool false, .slice none 0 0] 30) = wzq at *
          generalize u2.heap.size = gq at *
          refine Calm.one (i := 6) (l' := #[true, true, true, true, true, true, true, false]) (by kernel_rfl) rfl rfl rfl fun K hK => ?_
          have LTS := hide (And.intro LT1q.out (And.intro LT2q.out (And.intro LT3q.out (And.intro LT1r.out (And.intro LT2r.out (And.intro LT3r.out (show gq ≠ gr by first | exact Nat.ne_of_lt LTqr.out | exact Nat.ne_of_gt LTrq.out)))))))
          have hc0 := BXq.out.cell0
          have hc1 := BXq.out.cell1
          have hf0 := BXq.out.free 0
          have hf1 := BXq.out.free 1
          go_simp
          have HF' := hide (And.intro (below_put HF.out.1 (show w.heap.size ≤ gq by have hx := LTS.out; omega) (.bool sa) (.slice ma la ka)) (And.intro (HF.out.2.1.other (C := gq) (by have hx := LTS.out; omega) (.bool sa) (.slice ma la ka)) (And.intro (HF.out.2.2.1.other (C := gq) (by have hx := LTS.out; omega) (.bool sa) (.slice ma la ka)) (And.intro (HF.out.2.2.2.1.other (C := gq) (by have hx := LTS.out; omega) (.bool sa) (.slice ma la ka)) (And.intro (HF.out.2.2.2.2.1.keep (BXq.out.keeps (by simp) (by simp) (.bool sa) (.slice ma la ka))) (HF.out.2.2.2.2.2.keep (BXq.out.keeps (by simp) (by simp) (.bool sa) (.slice ma la ka))))))))
          replace TA := hide (TA.out.keep (BXq.out.keeps (by simp) (by simp) (.bool sa) (.slice ma la ka)))
          replace TB := hide (TB.out.keep (BXq.out.keeps (by simp) (by simp) (.bool sa) (.slice ma la ka)))
          replace BXr := hide (BXr.out.other (C := gq) (by have hx := LTS.out; omega) (.bool sa) (.slice ma la ka))
          replace BXq := hide (BXq.out.put (.bool sa) (.slice ma la ka))
          refine hK _ _ (fun _ => HF'.out) ?_
          clear hK K HF hc0 hf0 hc1 hf1
          have HF := hide HF'.out
          clear HF'
          generalize ((wzq.setCell ⟨gq, 0, none⟩ (.bool sa)).setCell ⟨gq, 1, none⟩ (.slice ma la ka)) = ws1 at *
          refine Calm.one (i := 7) (l' := #[true, true, true, true, true, true, true, true]) (by kernel_rfl) rfl rfl rfl fun K hK => ?_
          have hc0 := BXr.out.cell0
          have hc1 := BXr.out.cell1
          have hf0 := BXr.out.free 0
          have hf1 := BXr.out.free 1
          go_simp
          have HF' := hide (And.intro (below_put HF.out.1 (show w.heap.size ≤ gr by have hx := LTS.out; omega) (.bool sb) (.slice mb lb kb)) (And.intro (HF.out.2.1.other (C := gr) (by have hx := LTS.out; omega) (.bool sb) (.slice mb lb kb)) (And.intro (HF.out.2.2.1.other (C := gr) (by have hx := LTS.out; omega) (.bool sb) (.slice mb lb kb)) (And.intro (HF.out.2.2.2.1.other (C := gr) (by have hx := LTS.out; omega) (.bool sb) (.slice mb lb kb)) (And.intro (HF.out.2.2.2.2.1.keep (BXr.out.keeps (by simp) (by simp) (.bool sb) (.slice mb lb kb))) (HF.out.2.2.2.2.2.keep (BXr.out.keeps (by simp) (by simp) (.bool sb) (.slice mb lb kb))))))))
          replace TA := hide (TA.out.keep (BXr.out.keeps (by simp) (by simp) (.bool sb) (.slice mb lb kb)))
          replace TB := hide (TB.out.keep (BXr.out.keeps (by simp) (by simp) (.bool sb) (.slice mb lb kb)))
          replace BXq := hide (BXq.out.other (C := gr) (by have hx := LTS.out; omega) (.bool sb) (.slice mb lb kb))
          replace BXr := hide (BXr.out.put (.bool sb) (.slice mb lb kb))
          refine hK _ _ (fun _ => HF'.out) ?_
          clear hK K HF hc0 hf0 hc1 hf1
          have HF := hide HF'.out
          clear HF'
          generalize ((ws1.setCell ⟨gr, 0, none⟩ (.bool sb)).setCell ⟨gr, 1, none⟩ (.slice mb lb kb)) = ws2 at *
          refine Calm.done (by kernel_rfl) ?_
          go_wp2
          go_meet
          case rel => exact ⟨gq, gr, sa, ma, la, ka, sb, mb, lb, kb, rfl, rfl, LTS.out, HF.out.1, HF.out.2.2.2.1, BXq.out, BXr.out, TA.out, TB.out⟩
        · go_simp
          have al := below_alloc wzr (.cells #[.bool false, .slice none 0 0] 30)
          have HF' := hide (And.intro (HF.out.1.trans ((al).mono HF.out.1.size)) (And.intro (HF.out.2.1.step (al)) (And.intro (HF.out.2.2.1.step (al)) (And.intro (HF.out.2.2.2.1.step (al)) (And.intro (HF.out.2.2.2.2.1.below (al)) (HF.out.2.2.2.2.2.below (al)))))))
          have BXq := hide (Box2.new wzr 30 (.bool false) (.slice none 0 0))
          replace TA := hide (TA.out.below (al))
          have LTrq := hide (BXr.out.lt)
          replace BXr := hide (BXr.out.step al)
          have LT1q := hide (HF.out.2.1.lt)
          have LT2q := hide (HF.out.2.2.1.lt)
          have LT3q := hide (HF.out.2.2.2.1.lt)
          have GEq := hide (HF.out.1.size)
          refine hK _ _ (fun _ => HF'.out) ?_
          clear hK K HF al
          have HF := hide HF'.out
          clear HF'
          generalize wzr.alloc (.cells #[.bool false, .slice none 0 0] 30) = wzq at *
          generalize wzr.heap.size = gq at *
          refine Calm.one (i := 3) (l' := #[true, true, true, true, true, true, false, false]) (by kernel_rfl) rfl rfl rfl fun K hK => ?_
          go_simp
          refine (rabs_any _ y _ HF.out.2.2.2.2.2).mono ?_
          rintro e u2 ⟨v, rfl, n, hb⟩
          obtain ⟨sb, mb, lb, kb, rfl, n⟩ := n.cells
          replace TA := hide (TA.out.below (hb))
          replace BXr := hide (BXr.out.step hb)
          replace BXq := hide (BXq.out.step hb)
          have HF' := hide (And.intro (HF.out.1.trans ((hb).mono HF.out.1.size)) (And.intro (HF.out.2.1.step (hb)) (And.intro (HF.out.2.2.1.step (hb)) (And.intro (HF.out.2.2.2.1.step (hb)) (And.intro (HF.out.2.2.2.2.1.below (hb)) (HF.out.2.2.2.2.2.below (hb)))))))
          have TB := hide (n)
          refine hK _ _ (fun _ => HF'.out) ?_
          clear hK K HF hb n
          have HF := hide HF'.out
          clear HF'
          refine Calm.one (i := 6) (l' := #[true, true, true, true, true, true, true, false]) (by kernel_rfl) rfl rfl rfl fun K hK => ?_
          have LTS := hide (And.intro LT1q.out (And.intro LT2q.out (And.intro LT3q.out (And.intro LT1r.out (And.intro LT2r.out (And.intro LT3r.out (show gq ≠ gr by first | exact Nat.ne_of_lt LTqr.out | exact Nat.ne_of_gt LTrq.out)))))))
          have hc0 := BXq.out.cell0
          have hc1 := BXq.out.cell1
          have hf0 := BXq.out.free 0
          have hf1 := BXq.out.free 1
          go_simp
          have HF' := hide (And.intro (below_put HF.out.1 (show w.heap.size ≤ gq by have hx := LTS.out; omega) (.bool sa) (.slice ma la ka)) (And.intro (HF.out.2.1.other (C := gq) (by have hx := LTS.out; omega) (.bool sa) (.slice ma la ka)) (And.intro (HF.out.2.2.1.other (C := gq) (by have hx := LTS.out; omega) (.bool sa) (.slice ma la ka)) (And.intro (HF.out.2.2.2.1.other (C := gq) (by have hx := LTS.out; omega) (.bool sa) (.slice ma la ka)) (And.intro (HF.out.2.2.2.2.1.keep (BXq.out.keeps (by simp) (by simp) (.bool sa) (.slice ma la ka))) (HF.out.2.2.2.2.2.keep (BXq.out.keeps (by simp) (by simp) (.bool sa) (.slice ma la ka))))))))
          replace TA := hide (TA.out.keep (BXq.out.keeps (by simp) (by simp) (.bool sa) (.slice ma la ka)))
          replace TB := hide (TB.out.keep (BXq.out.keeps (by simp) (by simp) (.bool sa) (.slice ma la ka)))
          replace BXr := hide (BXr.out.other (C := gq) (by have hx := LTS.out; omega) (.bool sa) (.slice ma la ka))
          replace BXq := hide (BXq.out.put (.bool sa) (.slice ma la ka))
          refine hK _ _ (fun _ => HF'.out) ?_
          clear hK K HF hc0 hf0 hc1 hf1
          have HF := hide HF'.out
          clear HF'
          generalize ((u2.setCell ⟨gq, 0, none⟩ (.bool sa)).setCell ⟨gq, 1, none⟩ (.slice ma la ka)) = ws1 at *
          refine Calm.one (i := 7) (l' := #[true, true, true, true, true, true, true, true]) (by kernel_rfl) rfl rfl rfl fun K hK => ?_
          have hc0 := BXr.out.cell0
          have hc1 := BXr.out.cell1
          have hf0 := BXr.out.free 0
          have hf1 := BXr.out.free 1
          go_simp
          have HF' := hide (And.intro (below_put HF.out.1 (show w.heap.size ≤ gr by have hx := LTS.out; omega) (.bool sb) (.slice mb lb kb)) (And.intro (HF.out.2.1.other (C := gr) (by have hx := LTS.out; omega) (.bool sb) (.slice mb lb kb)) (And.intro (HF.out.2.2.1.other (C := gr) (by have hx := LTS.out; omega) (.bool sb) (.slice mb lb kb)) (And.intro (HF.out.2.2.2.1.other (C := gr) (by have hx := LTS.out; omega) (.bool sb) (.slice mb lb kb)) (And.intro (HF.out.2.2.2.2.1.keep (BXr.out.keeps (by simp) (by simp) (.bool sb) (.slice mb lb kb))) (HF.out.2.2.2.2.2.keep (BXr.out.keeps (by simp) (by simp) (.bool sb) (.slice mb lb kb))))))))
          replace TA := hide (TA.out.keep (BXr.out.keeps (by simp) (by simp) (.bool sb) (.slice mb lb kb)))
          replace TB := hide (TB.out.keep (BXr.out.keeps (by simp) (by simp) (.bool sb) (.slice mb lb kb)))
          replace BXq := hide (BXq.out.other (C := gr) (by have hx := LTS.out; omega) (.bool sb) (.slice mb lb kb))
          replace BXr := hide (BXr.out.put (.bool sb) (.slice mb lb kb))
          refine hK _ _ (fun _ => HF'.out) ?_
          clear hK K HF hc0 hf0 hc1 hf1
          have HF := hide HF'.out
          clear HF'
          generalize ((ws1.setCell ⟨gr, 0, none⟩ (.bool sb)).setCell ⟨gr, 1, none⟩ (.slice mb lb kb)) = ws2 at *
          refine Calm.done (by kernel_rfl) ?_
          go_wp2
          go_meet
          case rel => exact ⟨gq, gr, sa, ma, la, ka, sb, mb, lb, kb, rfl, rfl, LTS.out, HF.out.1, HF.out.2.2.2.1, BXq.out, BXr.out, TA.out, TB.out⟩
    · go_simp
      have al := below_alloc w0d (.cells #[.bool false, .slice none 0 0] 30)
      have HF' := hide (And.intro (HF.out.1.trans ((al).mono HF.out.1.size)) (And.intro (HF.out.2.1.step (al)) (And.intro (HF.out.2.2.1.step (al)) (And.intro (HF.out.2.2.2.1.step (al)) (And.intro (HF.out.2.2.2.2.1.below (al)) (HF.out.2.2.2.2.2.below (al)))))))
      have BXq := hide (Box2.new w0d 30 (.bool false) (.slice none 0 0))
      have LT1q := hide (HF.out.2.1.lt)
      have LT2q := hide (HF.out.2.2.1.lt)
      have LT3q := hide (HF.out.2.2.2.1.lt)
      have GEq := hide (HF.out.1.size)
      refine hK _ _ (fun _ => HF'.out) ?_
      clear hK K HF al
      have HF := hide HF'.out
      clear HF'
      generalize w0d.alloc (.cells #[.bool false, .slice none 0 0] 30) = wzq at *
      generalize w0d.heap.size = gq at *
      refine Calm.two (i := 1) (j := 5) (l := #[true, true, true, false, true, false, false, false]) (l' := #[true, false, true, false, true, true, false, false]) (by kernel_rfl) rfl rfl rfl rfl rfl rfl (fun K hK => ?_) (fun K hK => ?_)
      · go_simp
        refine (rabs_any _ x _ HF.out.2.2.2.2.1).mono ?_
        rintro e u1 ⟨v, rfl, n, hb⟩
        obtain ⟨sa, ma, la, ka, rfl, n⟩ := n.cells
        replace BXq := hide (BXq.out.step hb)
        have HF' := hide (And.intro (HF.out.1.trans ((hb).mono HF.out.1.size)) (And.intro (HF.out.2.1.step (hb)) (And.intro (HF.out.2.2.1.step (hb)) (And.intro (HF.out.2.2.2.1.step (hb)) (And.intro (HF.out.2.2.2.2.1.below (hb)) (HF.out.2.2.2.2.2.below (hb)))))))
        have TA := hide (n)
        refine hK _ _ (fun _ => HF'.out) ?_
        clear hK K HF hb n
        have HF := hide HF'.out
        clear HF'
        refine Calm.two (i := 3) (j := 5) (l := #[true, true, true, true, true, false, false, false]) (l' := #[true, true, true, false, true, true, false, false]) (by kernel_rfl) rfl rfl rfl rfl rfl rfl (fun K hK => ?_) (fun K hK => ?_)
        · go_simp
          refine (rabs_any _ y _ HF.out.2.2.2.2.2).mono ?_
          rintro e u2 ⟨v, rfl, n, hb⟩
          obtain ⟨sb, mb, lb, kb, rfl, n⟩ := n.cells
          replace TA := hide (TA.out.below (hb))
          replace BXq := hide (BXq.out.step hb)
          have HF' := hide (And.intro (HF.out.1.trans ((hb).mono HF.out.1.size)) (And.intro (HF.out.2.1.step (hb)) (And.intro (HF.out.2.2.1.step (hb)) (And.intro (HF.out.2.2.2.1.step (hb)) (And.intro (HF.out.2.2.2.2.1.below (hb)) (HF.out.2.2.2.2.2.below (hb)))))))
          have TB := hide (n)
          refine hK _ _ (fun _ => HF'.out) ?_
          clear hK K HF hb n
          have HF := hide HF'.out
          clear HF'
          refine Calm.one (i := 5) (l' := #[true, true, true, true, true, true, false, false]) (by kernel_rfl) rfl rfl rfl fun K hK => ?_
          go_simp
          have al := below_alloc u2 (.cells #[.bool false, .slice none 0 0] 30)
          have HF' := hide (And.intro (HF.out.1.trans ((al).mono HF.out.1.size)) (And.intro (HF.out.2.1.step (al)) (And.intro (HF.out.2.2.1.step (al)) (And.intro (HF.out.2.2.2.1.step (al)) (And.intro (HF.out.2.2.2.2.1.below (al)) (HF.out.2.2.2.2.2.below (al)))))))
          have BXr := hide (Box2.new u2 30 (.bool false) (.slice none 0 0))
          replace TA := hide (TA.out.below (al))
          replace TB := hide (TB.out.below (al))
          have LTqr := hide (BXq.out.lt)
          replace BXq := hide (BXq.out.step al)
          have LT1r := hide (HF.out.2.1.lt)
          have LT2r := hide (HF.out.2.2.1.lt)
          have LT3r := hide (HF.out.2.2.2.1.lt)
          have GEr := hide (HF.out.1.size)
          refine hK _ _ (fun _ => HF'.out) ?_
          clear hK K HF al
          have HF := hide HF'.out
          clear HF'
          generalize u2.alloc (.cells #[.bool false, .slice none 0 0] 30) = wzr at *
          generalize u2.heap.size = gr at *
          refine Calm.one (i := 6) (l' := #[true, true, true, true, true, true, true, false]) (by kernel_rfl) rfl rfl rfl fun K hK => ?_
          have LTS := hide (And.intro LT1q.out (And.intro LT2q.out (And.intro LT3q.out (And.intro LT1r.out (And.intro LT2r.out (And.intro LT3r.out (show gq ≠ gr by first | exact Nat.ne_of_lt LTqr.out | exact Nat.ne_of_gt LTrq.out)))))))
          have hc0 := BXq.out.cell0
          have hc1 := BXq.out.cell1
          have hf0 := BXq.out.free 0
          have hf1 := BXq.out.free 1
          go_simp
          have HF' := hide (And.intro (below_put HF.out.1 (show w.heap.size ≤ gq by have hx := LTS.out; omega) (.bool sa) (.slice ma la ka)) (And.intro (HF.out.2.1.other (C := gq) (by have hx := LTS.out; omega) (.bool sa) (.slice ma la ka)) (And.intro (HF.out.2.2.1.other (C := gq) (by have hx := LTS.out; omega) (.bool sa) (.slice ma la ka)) (And.intro (HF.out.2.2.2.1.other (C := gq) (by have hx := LTS.out; omega) (.bool sa) (.slice ma la ka)) (And.intro (HF.out.2.2.2.2.1.keep (BXq.out.keeps (by simp) (by simp) (.bool sa) (.slice ma la ka))) (HF.out.2.2.2.2.2.keep (BXq.out.keeps (by simp) (by simp) (.bool sa) (.slice ma la ka))))))))
          replace TA := hide (TA.out.keep (BXq.out.keeps (by simp) (by simp) (.bool sa) (.slice ma la ka)))
          replace TB := hide (TB.out.keep (BXq.out.keeps (by simp) (by simp) (.bool sa) (.slice ma la ka)))
          replace BXr := hide (BXr.out.other (C := gq) (by have hx := LTS.out; omega) (.bool sa) (.slice ma la ka))
          replace BXq := hide (BXq.out.put (.bool sa) (.slice ma la ka))
          refine hK _ _ (fun _ => HF'.out) ?_
          clear hK K HF hc0 hf0 hc1 hf1
          have HF := hide HF'.out
          clear HF'
          generalize ((wzr.setCell ⟨gq, 0, none⟩ (.bool sa)).setCell ⟨gq, 1, none⟩ (.slice ma la ka)) = ws1 at *
          refine Calm.one (i := 7) (l' := #[true, true, true, true, true, true, true, true]) (by kernel_rfl) rfl rfl rfl fun K hK => ?_
          have hc0 := BXr.out.cell0
          have hc1 := BXr.out.cell1
          have hf0 := BXr.out.free 0
          have hf1 := BXr.out.free 1
          go_simp
          have HF' := hide (And.intro (below_put HF.out.1 (show w.heap.size ≤ gr by have hx := LTS.out; omega) (.bool sb) (.slice mb lb kb)) (And.intro (HF.out.2.1.other (C := gr) (by have hx := LTS.out; omega) (.bool sb) (.slice mb lb kb)) (And.intro (HF.out.2.2.1.other (C := gr) (by have hx := LTS.out; omega) (.bool sb) (.slice mb lb kb)) (And.intro (HF.out.2.2.2.1.other (C := gr) (by have hx := LTS.out; omega) (.bool sb) (.slice mb lb kb)) (And.intro (HF.out.2.2.2.2.1.keep (BXr.out.keeps (by simp) (by simp) (.bool sb) (.slice mb lb kb))) (HF.out.2.2.2.2.2.keep (BXr.out.keeps (by simp) (by simp) (.bool sb) (.slice mb lb kb))))))))
          replace TA := hide (TA.out.keep (BXr.out.keeps (by simp) (by simp) (.bool sb) (.slice mb lb kb)))
          replace TB := hide (TB.out.keep (BXr.out.keeps (by simp) (by simp) (.bool sb) (.slice mb lb kb)))
          replace BXq := hide (BXq.out.other (C := gr) (by have hx := LTS.out; omega) (.bool sb) (.slice mb lb kb))
          replace BXr := hide (BXr.out.put (.bool sb) (.slice mb lb kb))
          refine hK _ _ (fun _ => HF'.out) ?_
          clear hK K HF hc0 hf0 hc1 hf1
          have HF := hide HF'.out
          clear HF'
          generalize ((ws1.setCell ⟨gr, 0, none⟩ (.bool sb)).setCell ⟨gr, 1, none⟩ (.slice mb lb kb)) = ws2 at *
          refine Calm.done (by kernel_rfl) ?_
          go_wp2
          go_meet
          case rel => exact ⟨gq, gr, sa, ma, la, ka, sb, mb, lb, kb, rfl, rfl, LTS.out, HF.out.1, HF.out.2.2.2.1, BXq.out, BXr.out, TA.out, TB.out⟩
        · go_simp
          have al := below_alloc u1 (.cells #[.bool false, .slice none 0 0] 30)
          have HF' := hide (And.intro (HF.out.1.trans ((al).mono HF.out.1.size)) (And.intro (HF.out.2.1.step (al)) (And.intro (HF.out.2.2.1.step (al)) (And.intro (HF.out.2.2.2.1.step (al)) (And.intro (HF.out.2.2.2.2.1.below (al)) (HF.out.2.2.2.2.2.below (al)))))))
          have BXr := hide (Box2.new u1 30 (.bool false) (.slice none 0 0))
          replace TA := hide (TA.out.below (al))
          have LTqr := hide (BXq.out.lt)
          replace BXq := hide (BXq.out.step al)
          have LT1r := hide (HF.out.2.1.lt)
          have LT2r := hide (HF.out.2.2.1.lt)
          have LT3r := hide (HF.out.2.2.2.1.lt)
          have GEr := hide (HF.out.1.size)
          refine hK _ _ (fun _ => HF'.out) ?_
          clear hK K HF al
          have HF := hide HF'.out
          clear HF'
          generalize u1.alloc (.cells #[.bool false, .slice none 0 0] 30) = wzr at *
          generalize u1.heap.size = gr at *
          refine Calm.one (i := 3) (l' := #[true, true, true, true, true, true, false, false]) (by kernel_rfl) rfl rfl rfl fun K hK => ?_
          go_simp
          refine (rabs_any _ y _ HF.out.2.2.2.2.2).mono ?_
          rintro e u2 ⟨v, rfl, n, hb⟩
          obtain ⟨sb, mb, lb, kb, rfl, n⟩ := n.cells
          replace TA := hide (TA.out.below (hb))
          replace BXq := hide (BXq.out.step hb)
          replace BXr := hide (BXr.out.step hb)
          have HF' := hide (And.intro (HF.out.1.trans ((hb).mono HF.out.1.size)) (And.intro (HF.out.2.1.step (hb)) (And.intro (HF.out.2.2.1.step (hb)) (And.intro (HF.out.2.2.2.1.step (hb)) (And.intro (HF.out.2.2.2.2.1.below (hb)) (HF.out.2.2.2.2.2.below (hb)))))))
          have TB := hide (n)
          refine hK _ _ (fun _ => HF'.out) ?_
          clear hK K HF hb n
          have HF := hide HF'.out
          clear HF'
          refine Calm.one (i := 6) (l' := #[true, true, true, true, true, true, true, false]) (by kernel_rfl) rfl rfl rfl fun K hK => ?_
          have LTS := hide (And.intro LT1q.out (And.intro LT2q.out (And.intro LT3q.out (And.intro LT1r.out (And.intro LT2r.out (And.intro LT3r.out (show gq ≠ gr by first | exact Nat.ne_of_lt LTqr.out | exact Nat.ne_of_gt LTrq.out)))))))
          have hc0 := BXq.out.cell0
          have hc1 := BXq.out.cell1
          have hf0 := BXq.out.free 0
          have hf1 := BXq.out.free 1
          go_simp
          have HF' := hide (And.intro (below_put HF.out.1 (show w.heap.size ≤ gq by have hx := LTS.out; omega) (.bool sa) (.slice ma la ka)) (And.intro (HF.out.2.1.other (C := gq) (by have hx := LTS.out; omega) (.bool sa) (.slice ma la ka)) (And.intro (HF.out.2.2.1.other (C := gq) (by have hx := LTS.out; omega) (.bool sa) (.slice ma la ka)) (And.intro (HF.out.2.2.2.1.other (C := gq) (by have hx := LTS.out; omega) (.bool sa) (.slice ma la ka)) (And.intro (HF.out.2.2.2.2.1.keep (BXq.out.keeps (by simp) (by simp) (.bool sa) (.slice ma la ka))) (HF.out.2.2.2.2.2.keep (BXq.out.keeps (by simp) (by simp) (.bool sa) (.slice ma la ka))))))))
          replace TA := hide (TA.out.keep (BXq.out.keeps (by simp) (by simp) (.bool sa) (.slice ma la ka)))
          replace TB := hide (TB.out.keep (BXq.out.keeps (by simp) (by simp) (.bool sa) (.slice ma la ka)))
          replace BXr := hide (BXr.out.other (C := gq) (by have hx := LTS.out; omega) (.bool sa) (.slice ma la ka))
          replace BXq := hide (BXq.out.put (.bool sa) (.slice ma la ka))
          refine hK _ _ (fun _ => HF'.out) ?_
          clear hK K HF hc0 hf0 hc1 hf1
          have HF := hide HF'.out
          clear HF'
          generalize ((u2.setCell ⟨gq, 0, none⟩ (.bool sa)).setCell ⟨gq, 1, none⟩ (.slice ma la ka)) = ws1 at *
          refine Calm.one (i := 7) (l' := #[true, true, true, true, true, true, true, true]) (by kernel_rfl) rfl rfl rfl fun K hK => ?_
          have hc0 := BXr.out.cell0
          have hc1 := BXr.out.cell1
          have hf0 := BXr.out.free 0
          have hf1 := BXr.out.free 1
          go_simp
          have HF' := hide (And.intro (below_put HF.out.1 (show w.heap.size ≤ gr by have hx := LTS.out; omega) (.bool sb) (.slice mb lb kb)) (And.intro (HF.out.2.1.other (C := gr) (by have hx := LTS.out; omega) (.bool sb) (.slice mb lb kb)) (And.intro (HF.out.2.2.1.other (C := gr) (by have hx := LTS.out; omega) (.bool sb) (.slice mb lb kb)) (And.intro (HF.out.2.2.2.1.other (C := gr) (by have hx := LTS.out; omega) (.bool sb) (.slice mb lb kb)) (And.intro (HF.out.2.2.2.2.1.keep (BXr.out.keeps (by simp) (by simp) (.bool sb) (.slice mb lb kb))) (HF.out.2.2.2.2.2.keep (BXr.out.keeps (by simp) (by simp) (.bool sb) (.slice mb lb kb))))))))
          replace TA := hide (TA.out.keep (BXr.out.keeps (by simp) (by simp) (.bool sb) (.slice mb lb kb)))
          replace TB := hide (TB.out.keep (BXr.out.keeps (by simp) (by simp) (.bool sb) (.slice mb lb kb)))
          replace BXq := hide (BXq.out.other (C := gr) (by have hx := LTS.out; omega) (.bool sb) (.slice mb lb kb))
          replace BXr := hide (BXr.out.put (.bool sb) (.slice mb lb kb))
          refine hK _ _ (fun _ => HF'.out) ?_
          clear hK K HF hc0 hf0 hc1 hf1
          have HF := hide HF'.out
          clear HF'
          generalize ((ws1.setCell ⟨gr, 0, none⟩ (.bool sb)).setCell ⟨gr, 1, none⟩ (.slice mb lb kb)) = ws2 at *
          refine Calm.done (by kernel_rfl) ?_
          go_wp2
          go_meet
          case rel => exact ⟨gq, gr, sa, ma, la, ka, sb, mb, lb, kb, rfl, rfl, LTS.out, HF.out.1, HF.out.2.2.2.1, BXq.out, BXr.out, TA.out, TB.out⟩
      · go_simp
        have al := below_alloc wzq (.cells #[.bool false, .slice none 0 0] 30)
        have HF' := hide (And.intro (HF.out.1.trans ((al).mono HF.out.1.size)) (And.intro (HF.out.2.1.step (al)) (And.intro (HF.out.2.2.1.step (al)) (And.intro (HF.out.2.2.2.1.step (al)) (And.intro (HF.out.2.2.2.2.1.below (al)) (HF.out.2.2.2.2.2.below (al)))))))
        have BXr := hide (Box2.new wzq 30 (.bool false) (.slice none 0 0))
        have LTqr := hide (BXq.out.lt)
        replace BXq := hide (BXq.out.step al)
        have LT1r := hide (HF.out.2.1.lt)
        have LT2r := hide (HF.out.2.2.1.lt)
        have LT3r := hide (HF.out.2.2.2.1.lt)
        have GEr := hide (HF.out.1.size)
        refine hK _ _ (fun _ => HF'.out) ?_
        clear hK K HF al
        have HF := hide HF'.out
        clear HF'
        generalize wzq.alloc (.cells #[.bool false, .slice none 0 0] 30) = wzr at *
        generalize wzq.heap.size = gr at *
        refine Calm.one (i := 1) (l' := #[true, true, true, false, true, true, false, false]) (by kernel_rfl) rfl rfl rfl fun K hK => ?_
        go_simp
        refine (rabs_any _ x _ HF.out.2.2.2.2.1).mono ?_
        rintro e u1 ⟨v, rfl, n, hb⟩
        obtain ⟨sa, ma, la, ka, rfl, n⟩ := n.cells
        replace BXq := hide (BXq.out.step hb)
        replace BXr := hide (BXr.out.step hb)
        have HF' := hide (And.intro (HF.out.1.trans ((hb).mono HF.out.1.size)) (And.intro (HF.out.2.1.step (hb)) (And.intro (HF.out.2.2.1.step (hb)) (And.intro (HF.out.2.2.2.1.step (hb)) (And.intro (HF.out.2.2.2.2.1.below (hb)) (HF.out.2.2.2.2.2.below (hb)))))))
        have TA := hide (n)
        refine hK _ _ (fun _ => HF'.out) ?_
        clear hK K HF hb n
        have HF := hide HF'.out
        clear HF'
        refine Calm.one (i := 3) (l' := #[true, true, true, true, true, true, false, false]) (by kernel_rfl) rfl rfl rfl fun K hK => ?_
        go_simp
        refine (rabs_any _ y _ HF.out.2.2.2.2.2).mono ?_
        rintro e u2 ⟨v, rfl, n, hb⟩
        obtain ⟨sb, mb, lb, kb, rfl, n⟩ := n.cells
        replace TA := hide (TA.out.below (hb))
        replace BXq := hide (BXq.out.step hb)
        replace BXr := hide (BXr.out.step hb)
        have HF' := hide (And.intro (HF.out.1.trans ((hb).mono HF.out.1.size)) (And.intro (HF.out.2.1.step (hb)) (And.intro (HF.out.2.2.1.step (hb)) (And.intro (HF.out.2.2.2.1.step (hb)) (And.intro (HF.out.2.2.2.2.1.below (hb)) (HF.out.2.2.2.2.2.below (hb)))))))
        have TB := hide (n)
        refine hK _ _ (fun _ => HF'.out) ?_
        clear hK K HF hb n
        have HF := hide HF'.out
        clear HF'
        refine Calm.one (i := 6) (l' := #[true, true, true, true, true, true, true, false]) (by kernel_rfl) rfl rfl rfl fun K hK => ?_
        have LTS := hide (And.intro LT1q.out (And.intro LT2q.out (And.intro LT3q.out (And.intro LT1r.out (And.intro LT2r.out (And.intro LT3r.out (show gq ≠ gr by first | exact Nat.ne_of_lt LTqr.out | exact Nat.ne_of_gt LTrq.out)))))))
        have hc0 := BXq.out.cell0
        have hc1 := BXq.out.cell1
        have hf0 := BXq.out.free 0
        have hf1 := BXq.out.free 1
        go_simp
        have HF' := hide (And.intro (below_put HF.out.1 (show w.heap.size ≤ gq by have hx := LTS.out; omega) (.bool sa) (.slice ma la ka)) (And.intro (HF.out.2.1.other (C := gq) (by have hx := LTS.out; omega) (.bool sa) (.slice ma la ka)) (And.intro (HF.out.2.2.1.other (C := gq) (by have hx := LTS.out; omega) (.bool sa) (.slice ma la ka)) (And.intro (HF.out.2.2.2.1.other (C := gq) (by have hx := LTS.out; omega) (.bool sa) (.slice ma la ka)) (And.intro (HF.out.2.2.2.2.1.keep (BXq.out.keeps (by simp) (by simp) (.bool sa) (.slice ma la ka))) (HF.out.2.2.2.2.2.keep (BXq.out.keeps (by simp) (by simp) (.bool sa) (.slice ma la ka))))))))
        replace TA := hide (TA.out.keep (BXq.out.keeps (by simp) (by simp) (.bool sa) (.slice ma la ka)))
        replace TB := hide (TB.out.keep (BXq.out.keeps (by simp) (by simp) (.bool sa) (.slice ma la ka)))
        replace BXr := hide (BXr.out.other (C := gq) (by have hx := LTS.out; omega) (.bool sa) (.slice ma la ka))
        replace BXq := hide (BXq.out.put (.bool sa) (.slice ma la ka))
        refine hK _ _ (fun _ => HF'.out) ?_
        clear hK K HF hc0 hf0 hc1 hf1
        have HF := hide HF'.out
        clear HF'
        generalize ((u2.setCell ⟨gq, 0, none⟩ (.bool sa)).setCell ⟨gq, 1, none⟩ (.slice ma la ka)) = ws1 at *
        refine Calm.one (i := 7) (l' := #[true, true, true, true, true, true, true, true]) (by kernel_rfl) rfl rfl rfl fun K hK => ?_
        have hc0 := BXr.out.cell0
        have hc1 := BXr.out.cell1
        have hf0 := BXr.out.free 0
        have hf1 := BXr.out.free 1
        go_simp
        have HF' := hide (And.intro (below_put HF.out.1 (show w.heap.size ≤ gr by have hx := LTS.out; omega) (.bool sb) (.slice mb lb kb)) (And.intro (HF.out.2.1.other (C := gr) (by have hx := LTS.out; omega) (.bool sb) (.slice mb lb kb)) (And.intro (HF.out.2.2.1.other (C := gr) (by have hx := LTS.out; omega) (.bool sb) (.slice mb lb kb)) (And.intro (HF.out.2.2.2.1.other (C := gr) (by have hx := LTS.out; omega) (.bool sb) (.slice mb lb kb)) (And.intro (HF.out.2.2.2.2.1.keep (BXr.out.keeps (by simp) (by simp) (.bool sb) (.slice mb lb kb))) (HF.out.2.2.2.2.2.keep (BXr.out.keeps (by simp) (by simp) (.bool sb) (.slice mb lb kb))))))))
        replace TA := hide (TA.out.keep (BXr.out.keeps (by simp) (by simp) (.bool sb) (.slice mb lb kb)))
        replace TB := hide (TB.out.keep (BXr.out.keeps (by simp) (by simp) (.bool sb) (.slice mb lb kb)))
        replace BXq := hide (BXq.out.other (C := gr) (by have hx := LTS.out; omega) (.bool sb) (.slice mb lb kb))
        replace BXr := hide (BXr.out.put (.bool sb) (.slice mb lb kb))
        refine hK _ _ (fun _ => HF'.out) ?_
        clear hK K HF hc0 hf0 hc1 hf1
        have HF := hide HF'.out
        clear HF'
        generalize ((ws1.setCell ⟨gr, 0, none⟩ (.bool sb)).setCell ⟨gr, 1, none⟩ (.slice mb lb kb)) = ws2 at *
        refine Calm.done (by kernel_rfl) ?_
        go_wp2
        go_meet
        case rel => exact ⟨gq, gr, sa, ma, la, ka, sb, mb, lb, kb, rfl, rfl, LTS.out, HF.out.1, HF.out.2.2.2.1, BXq.out, BXr.out, TA.out, TB.out⟩
    · go_simp
      have al := below_alloc w0d (.cells #[.bool false, .slice none 0 0] 30)
      have HF' := hide (And.intro (HF.out.1.trans ((al).mono HF.out.1.size)) (And.intro (HF.out.2.1.step (al)) (And.intro (HF.out.2.2.1.step (al)) (And.intro (HF.out.2.2.2.1.step (al)) (And.intro (HF.out.2.2.2.2.1.below (al)) (HF.out.2.2.2.2.2.below (al)))))))
      have BXr := hide (Box2.new w0d 30 (.bool false) (.slice none 0 0))
      have LT1r := hide (HF.out.2.1.lt)
      have LT2r := hide (HF.out.2.2.1.lt)
      have LT3r := hide (HF.out.2.2.2.1.lt)
      have GEr := hide (HF.out.1.size)
      refine hK _ _ (fun _ => HF'.out) ?_
      clear hK K HF al
      have HF := hide HF'.out
      clear HF'
      generalize w0d.alloc (.cells #[.bool false, .slice none 0 0] 30) = wzr at *
      generalize w0d.heap.size = gr at *
      refine Calm.two (i := 1) (j := 4) (l := #[true, true, true, false, false, true, false, false]) (l' := #[true, false, true, false, true, true, false, false]) (by kernel_rfl) rfl rfl rfl rfl rfl rfl (fun K hK => ?_) (fun K hK => ?_)
      · go_simp
        refine (rabs_any _ x _ HF.out.2.2.2.2.1).mono ?_
        rintro e u1 ⟨v, rfl, n, hb⟩
        obtain ⟨sa, ma, la, ka, rfl, n⟩ := n.cells
        replace BXr := hide (BXr.out.step hb)
        have HF' := hide (And.intro (HF.out.1.trans ((hb).mono HF.out.1.size)) (And.intro (HF.out.2.1.step (hb)) (And.intro (HF.out.2.2.1.step (hb)) (And.intro (HF.out.2.2.2.1.step (hb)) (And.intro (HF.out.2.2.2.2.1.below (hb)) (HF.out.2.2.2.2.2.below (hb)))))))
        have TA := hide (n)
        refine hK _ _ (fun _ => HF'.out) ?_
        clear hK K HF hb n
        have HF := hide HF'.out
        clear HF'
        refine Calm.two (i := 3) (j := 4) (l := #[true, true, true, true, false, true, false, false]) (l' := #[true, true, true, false, true, true, false, false]) (by kernel_rfl) rfl rfl rfl rfl rfl rfl (fun K hK => ?_) (fun K hK => ?_)
        · go_simp
          refine (rabs_any _ y _ HF.out.2.2.2.2.2).mono ?_
          rintro e u2 ⟨v, rfl, n, hb⟩
          obtain ⟨sb, mb, lb, kb, rfl, n⟩ := n.cells
          replace TA := hide (TA.out.below (hb))
          replace BXr := hide (BXr.out.step hb)
          have HF' := hide (And.intro (HF.out.1.trans ((hb).mono HF.out.1.size)) (And.intro (HF.out.2.1.step (hb)) (And.intro (HF.out.2.2.1.step (hb)) (And.intro (HF.out.2.2.2.1.step (hb)) (And.intro (HF.out.2.2.2.2.1.below (hb)) (HF.out.2.2.2.2.2.below (hb)))))))
          have TB := hide (n)
          refine hK _ _ (fun _ => HF'.out) ?_
          clear hK K HF hb n
          have HF := hide HF'.out
          clear HF'
          refine Calm.one (i := 4) (l' := #[true, true, true, true, true, true, false, false]) (by kernel_rfl) rfl rfl rfl fun K hK => ?_
          go_simp
          have al := below_alloc u2 (.cells #[.bool false, .slice none 0 0] 30)
          have HF' := hide (And.intro (HF.out.1.trans ((al).mono HF.out.1.size)) (And.intro (HF.out.2.1.step (al)) (And.intro (HF.out.2.2.1.step (al)) (And.intro (HF.out.2.2.2.1.step (al)) (And.intro (HF.out.2.2.2.2.1.below (al)) (HF.out.2.2.2.2.2.below (al)))))))
          have BXq := hide (Box2.new u2 30 (.bool false) (.slice none 0 0))
          replace TA := hide (TA.out.below (al))
          replace TB := hide (TB.out.below (al))
          have LTrq := hide (BXr.out.lt)
          replace BXr := hide (BXr.out.step al)
          have LT1q := hide (HF.out.2.1.lt)
          have LT2q := hide (HF.out.2.2.1.lt)
          have LT3q := hide (HF.out.2.2.2.1.lt)
          have GEq := hide (HF.out.1.size)
          refine hK _ _ (fun _ => HF'.out) ?_
          clear hK K HF al
          have HF := hide HF'.out
          clear HF'
          generalize u2.alloc (.cells #[.bool false, .slice none 0 0] 30) = wzq at *
          generalize u2.heap.size = gq at *
          refine Calm.one (i := 6) (l' := #[true, true, true, true, true, true, true, false]) (by kernel_rfl) rfl rfl rfl fun K hK => ?_
          have LTS := hide (And.intro LT1q.out (And.intro LT2q.out (And.intro LT3q.out (And.intro LT1r.out (And.intro LT2r.out (And.intro LT3r.out (show gq ≠ gr by first | exact Nat.ne_of_lt LTqr.out | exact Nat.ne_of_gt LTrq.out)))))))
          have hc0 := BXq.out.cell0
          have hc1 := BXq.out.cell1
          have hf0 := BXq.out.free 0
          have hf1 := BXq.out.free 1
          go_simp
          have HF' := hide (And.intro (below_put HF.out.1 (show w.heap.size ≤ gq by have hx := LTS.out; omega) (.bool sa) (.slice ma la ka)) (And.intro (HF.out.2.1.other (C := gq) (by have hx := LTS.out; omega) (.bool sa) (.slice ma la ka)) (And.intro (HF.out.2.2.1.other (C := gq) (by have hx := LTS.out; omega) (.bool sa) (.slice ma la ka)) (And.intro (HF.out.2.2.2.1.other (C := gq) (by have hx := LTS.out; omega) (.bool sa) (.slice ma la ka)) (And.intro (HF.out.2.2.2.2.1.keep (BXq.out.keeps (by simp) (by simp) (.bool sa) (.slice ma la ka))) (HF.out.2.2.2.2.2.keep (BXq.out.keeps (by simp) (by simp) (.bool sa) (.slice ma la ka))))))))
          replace TA := hide (TA.out.keep (BXq.out.keeps (by simp) (by simp) (.bool sa) (.slice ma la ka)))
          replace TB := hide (TB.out.keep (BXq.out.keeps (by simp) (by simp) (.bool sa) (.slice ma la ka)))
          replace BXr := hide (BXr.out.other (C := gq) (by have hx := LTS.out; omega) (.bool sa) (.slice ma la ka))
          replace BXq := hide (BXq.out.put (.bool sa) (.slice ma la ka))
          refine hK _ _ (fun _ => HF'.out) ?_
          clear hK K HF hc0 hf0 hc1 hf1
          have HF := hide HF'.out
          clear HF'
          generalize ((wzq.setCell ⟨gq, 0, none⟩ (.bool sa)).setCell ⟨gq, 1, none⟩ (.slice ma la ka)) = ws1 at *
          refine Calm.one (i := 7) (l' := #[true, true, true, true, true, true, true, true]) (by kernel_rfl) rfl rfl rfl fun K hK => ?_
          have hc0 := BXr.out.cell0
          have hc1 := BXr.out.cell1
          have hf0 := BXr.out.free 0
          have hf1 := BXr.out.free 1
          go_simp
          have HF' := hide (And.intro (below_put HF.out.1 (show w.heap.size ≤ gr by have hx := LTS.out; omega) (.bool sb) (.slice mb lb kb)) (And.intro (HF.out.2.1.other (C := gr) (by have hx := LTS.out; omega) (.bool sb) (.slice mb lb kb)) (And.intro (HF.out.2.2.1.other (C := gr) (by have hx := LTS.out; omega) (.bool sb) (.slice mb lb kb)) (And.intro (HF.out.2.2.2.1.other (C := gr) (by have hx := LTS.out; omega) (.bool sb) (.slice mb lb kb)) (And.intro (HF.out.2.2.2.2.1.keep (BXr.out.keeps (by simp) (by simp) (.bool sb) (.slice mb lb kb))) (HF.out.2.2.2.2.2.keep (BXr.out.keeps (by simp) (by simp) (.bool sb) (.slice mb lb kb))))))))
          replace TA := hide (TA.out.keep (BXr.out.keeps (by simp) (by simp) (.bool sb) (.slice mb lb kb)))
          replace TB := hide (TB.out.keep (BXr.out.keeps (by simp) (by simp) (.bool sb) (.slice mb lb kb)))
          replace BXq := hide (BXq.out.other (C := gr) (by have hx := LTS.out; omega) (.bool sb) (.slice mb lb kb))
          replace BXr := hide (BXr.out.put (.bool sb) (.slice mb lb kb))
          refine hK _ _ (fun _ => HF'.out) ?_
          clear hK K HF hc0 hf0 hc1 hf1
          have HF := hide HF'.out
          clear HF'
          generalize ((ws1.setCell ⟨gr, 0, none⟩ (.bool sb)).setCell ⟨gr, 1, none⟩ (.slice mb lb kb)) = ws2 at *
          refine Calm.done (by kernel_rfl) ?_
          go_wp2
          go_meet
          case rel => exact ⟨gq, gr, sa, ma, la, ka, sb, mb, lb, kb, rfl, rfl, LTS.out, HF.out.1, HF.out.2.2.2.1, BXq.out, BXr.out, TA.out, TB.out⟩
        · go_simp
          have al := below_alloc u1 (.cells #[.bool false, .slice none 0 0] 30)
          have HF' := hide (And.intro (HF.out.1.trans ((al).mono HF.out.1.size)) (And.intro (HF.out.2.1.step (al)) (And.intro (HF.out.2.2.1.step (al)) (And.intro (HF.out.2.2.2.1.step (al)) (And.intro (HF.out.2.2.2.2.1.below (al)) (HF.out.2.2.2.2.2.below (al)))))))
          have BXq := hide (Box2.new u1 30 (.bool false) (.slice none 0 0))
          replace TA := hide (TA.out.below (al))
          have LTrq := hide (BXr.out.lt)
          replace BXr := hide (BXr.out.step al)
          have LT1q := hide (HF.out.2.1.lt)
          have LT2q := hide (HF.out.2.2.1.lt)
          have LT3q := hide (HF.out.2.2.2.1.lt)
          have GEq := hide (HF.out.1.size)
          refine hK _ _ (fun _ => HF'.out) ?_
          clear hK K HF al
          have HF := hide HF'.out
          clear HF'
          generalize u1.alloc (.cells #[.bool false, .slice none 0 0] 30) = wzq at *
          generalize u1.heap.size = gq at *
          refine Calm.one (i := 3) (l' := #[true, true, true, true, true, true, false, false]) (by kernel_rfl) rfl rfl rfl fun K hK => ?_
          go_simp
          refine (rabs_any _ y _ HF.out.2.2.2.2.2).mono ?_
          rintro e u2 ⟨v, rfl, n, hb⟩
          obtain ⟨sb, mb, lb, kb, rfl, n⟩ := n.cells
          replace TA := hide (TA.out.below (hb))
          replace BXr := hide (BXr.out.step hb)
          replace BXq := hide (BXq.out.step hb)
          have HF' := hide (And.intro (HF.out.1.trans ((hb).mono HF.out.1.size)) (And.intro (HF.out.2.1.step (hb)) (And.intro (HF.out.2.2.1.step (hb)) (And.intro (HF.out.2.2.2.1.step (hb)) (And.intro (HF.out.2.2.2.2.1.below (hb)) (HF.out.2.2.2.2.2.below (hb)))))))
          have TB := hide (n)
          refine hK _ _ (fun _ => HF'.out) ?_
          clear hK K HF hb n
          have HF := hide HF'.out
          clear HF'
          refine Calm.one (i := 6) (l' := #[true, true, true, true, true, true, true, false]) (by kernel_rfl) rfl rfl rfl fun K hK => ?_
          have LTS := hide (And.intro LT1q.out (And.intro LT2q.out (And.intro LT3q.out (And.intro LT1r.out (And.intro LT2r.out (And.intro LT3r.out (show gq ≠ gr by first | exact Nat.ne_of_lt LTqr.out | exact Nat.ne_of_gt LTrq.out)))))))
          have hc0 := BXq.out.cell0
          have hc1 := BXq.out.cell1
          have hf0 := BXq.out.free 0
          have hf1 := BXq.out.free 1
          go_simp
          have HF' := hide (And.intro (below_put HF.out.1 (show w.heap.size ≤ gq by have hx := LTS.out; omega) (.bool sa) (.slice ma la ka)) (And.intro (HF.out.2.1.other (C := gq) (by have hx := LTS.out; omega) (.bool sa) (.slice ma la ka)) (And.intro (HF.out.2.2.1.other (C := gq) (by have hx := LTS.out; omega) (.bool sa) (.slice ma la ka)) (And.intro (HF.out.2.2.2.1.other (C := gq) (by have hx := LTS.out; omega) (.bool sa) (.slice ma la ka)) (And.intro (HF.out.2.2.2.2.1.keep (BXq.out.keeps (by simp) (by simp) (.bool sa) (.slice ma la ka))) (HF.out.2.2.2.2.2.keep (BXq.out.keeps (by simp) (by simp) (.bool sa) (.slice ma la ka))))))))
          replace TA := hide (TA.out.keep (BXq.out.keeps (by simp) (by simp) (.bool sa) (.slice ma la ka)))
          replace TB := hide (TB.out.keep (BXq.out.keeps (by simp) (by simp) (.bool sa) (.slice ma la ka)))
          replace BXr := hide (BXr.out.other (C := gq) (by have hx := LTS.out; omega) (.bool sa) (.slice ma la ka))
          replace BXq := hide (BXq.out.put (.bool sa) (.slice ma la ka))
          refine hK _ _ (fun _ => HF'.out) ?_
          clear hK K HF hc0 hf0 hc1 hf1
          have HF := hide HF'.out
          clear HF'
          generalize ((u2.setCell ⟨gq, 0, none⟩ (.bool sa)).setCell ⟨gq, 1, none⟩ (.slice ma la ka)) = ws1 at *
          refine Calm.one (i := 7) (l' := #[true, true, true, true, true, true, true, true]) (by kernel_rfl) rfl rfl rfl fun K hK => ?_
          have hc0 := BXr.out.cell0
          have hc1 := BXr.out.cell1
          have hf0 := BXr.out.free 0
          have hf1 := BXr.out.free 1
          go_simp
          have HF' := hide (And.intro (below_put HF.out.1 (show w.heap.size ≤ gr by have hx := LTS.out; omega) (.bool sb) (.slice mb lb kb)) (And.intro (HF.out.2.1.other (C := gr) (by have hx := LTS.out; omega) (.bool sb) (.slice mb lb kb)) (And.intro (HF.out.2.2.1.other (C := gr) (by have hx := LTS.out; omega) (.bool sb) (.slice mb lb kb)) (And.intro (HF.out.2.2.2.1.other (C := gr) (by have hx := LTS.out; omega) (.bool sb) (.slice mb lb kb)) (And.intro (HF.out.2.2.2.2.1.keep (BXr.out.keeps (by simp) (by simp) (.bool sb) (.slice mb lb kb))) (HF.out.2.2.2.2.2.keep (BXr.out.keeps (by simp) (by simp) (.bool sb) (.slice mb lb kb))))))))
          replace TA := hide (TA.out.keep (BXr.out.keeps (by simp) (by simp) (.bool sb) (.slice mb lb kb)))
          replace TB := hide (TB.out.keep (BXr.out.keeps (by simp) (by simp) (.bool sb) (.slice mb lb kb)))
          replace BXq := hide (BXq.out.other (C := gr) (by have hx := LTS.out; omega) (.bool sb) (.slice mb lb kb))
          replace BXr := hide (BXr.out.put (.bool sb) (.slice mb lb kb))
          refine hK _ _ (fun _ => HF'.out) ?_
          clear hK K HF hc0 hf0 hc1 hf1
          have HF := hide HF'.out
          clear HF'
          generalize ((ws1.setCell ⟨gr, 0, none⟩ (.bool sb)).setCell ⟨gr, 1, none⟩ (.slice mb lb kb)) = ws2 at *
          refine Calm.done (by kernel_rfl) ?_
          go_wp2
          go_meet
          case rel => exact ⟨gq, gr, sa, ma, la, ka, sb, mb, lb, kb, rfl, rfl, LTS.out, HF.out.1, HF.out.2.2.2.1, BXq.out, BXr.out, TA.out, TB.out⟩
      · go_simp
        have al := below_alloc wzr (.cells #[.bool false, .slice none 0 0] 30)
        have HF' := hide (And.intro (HF.out.1.trans ((al).mono HF.out.1.size)) (And.intro (HF.out.2.1.step (al)) (And.intro (HF.out.2.2.1.step (al)) (And.intro (HF.out.2.2.2.1.step (al)) (And.intro (HF.out.2.2.2.2.1.below (al)) (HF.out.2.2.2.2.2.below (al)))))))
        have BXq := hide (Box2.new wzr 30 (.bool false) (.slice none 0 0))
        have LTrq := hide (BXr.out.lt)
        replace BXr := hide (BXr.out.step al)
        have LT1q := hide (HF.out.2.1.lt)
        have LT2q := hide (HF.out.2.2.1.lt)
        have LT3q := hide (HF.out.2.2.2.1.lt)
        have GEq := hide (HF.out.1.size)
        refine hK _ _ (fun _ => HF'.out) ?_
        clear hK K HF al
        have HF := hide HF'.out
        clear HF'
        generalize wzr.alloc (.cells #[.bool false, .slice none 0 0] 30) = wzq at *
        generalize wzr.heap.size = gq at *
        refine Calm.one (i := 1) (l' := #[true, true, true, false, true, true, false, false]) (by kernel_rfl) rfl rfl rfl fun K hK => ?_
        go_simp
        refine (rabs_any _ x _ HF.out.2.2.2.2.1).mono ?_
        rintro e u1 ⟨v, rfl, n, hb⟩
        obtain ⟨sa, ma, la, ka, rfl, n⟩ := n.cells
        replace BXr := hide (BXr.out.step hb)
        replace BXq := hide (BXq.out.step hb)
        have HF' := hide (And.intro (HF.out.1.trans ((hb).mono HF.out.1.size)) (And.intro (HF.out.2.1.step (hb)) (And.intro (HF.out.2.2.1.step (hb)) (And.intro (HF.out.2.2.2.1.step (hb)) (And.intro (HF.out.2.2.2.2.1.below (hb)) (HF.out.2.2.2.2.2.below (hb)))))))
        have TA := hide (n)
        refine hK _ _ (fun _ => HF'.out) ?_
        clear hK K HF hb n
        have HF := hide HF'.out
        clear HF'
        refine Calm.one (i := 3) (l' := #[true, true, true, true, true, true, false, false]) (by kernel_rfl) rfl rfl rfl fun K hK => ?_
        go_simp
        refine (rabs_any _ y _ HF.out.2.2.2.2.2).mono ?_
        rintro e u2 ⟨v, rfl, n, hb⟩
        obtain ⟨sb, mb, lb, kb, rfl, n⟩ := n.cells
        replace TA := hide (TA.out.below (hb))
        replace BXr := hide (BXr.out.step hb)
        replace BXq := hide (BXq.out.step hb)
        have HF' := hide (And.intro (HF.out.1.trans ((hb).mono HF.out.1.size)) (And.intro (HF.out.2.1.step (hb)) (And.intro (HF.out.2.2.1.step (hb)) (And.intro (HF.out.2.2.2.1.step (hb)) (And.intro (HF.out.2.2.2.2.1.below (hb)) (HF.out.2.2.2.2.2.below (hb)))))))
        have TB := hide (n)
        refine hK _ _ (fun _ => HF'.out) ?_
        clear hK K HF hb n
        have HF := hide HF'.out
        clear HF'
        refine Calm.one (i := 6) (l' := #[true, true, true, true, true, true, true, false]) (by kernel_rfl) rfl rfl rfl fun K hK => ?_
        have LTS := hide (And.intro LT1q.out (And.intro LT2q.out (And.intro LT3q.out (And.intro LT1r.out (And.intro LT2r.out (And.intro LT3r.out (show gq ≠ gr by first | exact Nat.ne_of_lt LTqr.out | exact Nat.ne_of_gt LTrq.out)))))))
        have hc0 := BXq.out.cell0
        have hc1 := BXq.out.cell1
        have hf0 := BXq.out.free 0
        have hf1 := BXq.out.free 1
        go_simp
        have HF' := hide (And.intro (below_put HF.out.1 (show w.heap.size ≤ gq by have hx := LTS.out; omega) (.bool sa) (.slice ma la ka)) (And.intro (HF.out.2.1.other (C := gq) (by have hx := LTS.out; omega) (.bool sa) (.slice ma la ka)) (And.intro (HF.out.2.2.1.other (C := gq) (by have hx := LTS.out; omega) (.bool sa) (.slice ma la ka)) (And.intro (HF.out.2.2.2.1.other (C := gq) (by have hx := LTS.out; omega) (.bool sa) (.slice ma la ka)) (And.intro (HF.out.2.2.2.2.1.keep (BXq.out.keeps (by simp) (by simp) (.bool sa) (.slice ma la ka))) (HF.out.2.2.2.2.2.keep (BXq.out.keeps (by simp) (by simp) (.bool sa) (.slice ma la ka))))))))
        replace TA := hide (TA.out.keep (BXq.out.keeps (by simp) (by simp) (.bool sa) (.slice ma la ka)))
        replace TB := hide (TB.out.keep (BXq.out.keeps (by simp) (by simp) (.bool sa) (.slice ma la ka)))
        replace BXr := hide (BXr.out.other (C := gq) (by have hx := LTS.out; omega) (.bool sa) (.slice ma la ka))
        replace BXq := hide (BXq.out.put (.bool sa) (.slice ma la ka))
        refine hK _ _ (fun _ => HF'.out) ?_
        clear hK K HF hc0 hf0 hc1 hf1
        have HF := hide HF'.out
        clear HF'
        generalize ((u2.setCell ⟨gq, 0, none⟩ (.bool sa)).setCell ⟨gq, 1, none⟩ (.slice ma la ka)) = ws1 at *
        refine Calm.one (i := 7) (l' := #[true, true, true, true, true, true, true, true]) (by kernel_rfl) rfl rfl rfl fun K hK => ?_
        have hc0 := BXr.out.cell0
        have hc1 := BXr.out.cell1
        have hf0 := BXr.out.free 0
        have hf1 := BXr.out.free 1
        go_simp
        have HF' := hide (And.intro (below_put HF.out.1 (show w.heap.size ≤ gr by have hx := LTS.out; omega) (.bool sb) (.slice mb lb kb)) (And.intro (HF.out.2.1.other (C := gr) (by have hx := LTS.out; omega) (.bool sb) (.slice mb lb kb)) (And.intro (HF.out.2.2.1.other (C := gr) (by have hx := LTS.out; omega) (.bool sb) (.slice mb lb kb)) (And.intro (HF.out.2.2.2.1.other (C := gr) (by have hx := LTS.out; omega) (.bool sb) (.slice mb lb kb)) (And.intro (HF.out.2.2.2.2.1.keep (BXr.out.keeps (by simp) (by simp) (.bool sb) (.slice mb lb kb))) (HF.out.2.2.2.2.2.keep (BXr.out.keeps (by simp) (by simp) (.bool sb) (.slice mb lb kb))))))))
        replace TA := hide (TA.out.keep (BXr.out.keeps (by simp) (by simp) (.bool sb) (.slice mb lb kb)))
        replace TB := hide (TB.out.keep (BXr.out.keeps (by simp) (by simp) (.bool sb) (.slice mb lb kb)))
        replace BXq := hide (BXq.out.other (C := gr) (by have hx := LTS.out; omega) (.bool sb) (.slice mb lb kb))
        replace BXr := hide (BXr.out.put (.bool sb) (.slice mb lb kb))
        refine hK _ _ (fun _ => HF'.out) ?_
        clear hK K HF hc0 hf0 hc1 hf1
        have HF := hide HF'.out
        clear HF'
        generalize ((ws1.setCell ⟨gr, 0, none⟩ (.bool sb)).setCell ⟨gr, 1, none⟩ (.slice mb lb kb)) = ws2 at *
        refine Calm.done (by kernel_rfl) ?_
        go_wp2
        go_meet
        case rel => exact ⟨gq, gr, sa, ma, la, ka, sb, mb, lb, kb, rfl, rfl, LTS.out, HF.out.1, HF.out.2.2.2.1, BXq.out, BXr.out, TA.out, TB.out⟩
  case rest =>
  obtain ⟨gq, gr, sa, ma, la, ka, sb, mb, lb, kb, rfl, rfl, hlts, hB, h2, hq, hr, hiq, hir⟩ := hcut
  have LTS := hide hlts
  clear HB P0 P1 P2 I1 I2
  have HB := hide hB
  have P2 := hide h2
  have PQ := hide hq
  have PR := hide hr
  have IQ := hide hiq
  have IR := hide hir
  clear hlts hB h2 hq hr hiq hir
  generalize hwc : wc = w5 at *
  clear hwc
  go_wp2
  go_loopw [7, 8] (fun u7 u8 wr => ∃ (A B : Nat) (sa : Bool) (ma : Option Addr) (la ka : Nat) (sb : Bool) (mb : Option Addr) (lb kb : Nat), Nat.gcd A B = Int.gcd x y ∧ (D.lim A).length ≤ 10000000 ∧ (D.lim B).length ≤ 10000000 ∧ Below w.heap.size w wr ∧ Box2 wr (w.heap.size + 1 + 1) 30 (.bool false) (.slice none 0 0) ∧ Box2 wr gq 30 (.bool sa) (.slice ma la ka) ∧ Box2 wr gr 30 (.bool sb) (.slice mb lb kb) ∧ RInt wr (.agg #[.bool sa, .slice ma la ka]) (A : Int) ∧ RInt wr (.agg #[.bool sb, .slice mb lb kb]) (B : Int)) (fun _ _ wr => dnumAt wr gr)
  case atStart => exact ⟨x.natAbs, y.natAbs, sa, ma, la, ka, sb, mb, lb, kb, rfl, l1, l2, HB.out, P2.out, PQ.out, PR.out, IQ.out, IR.out⟩
  case round =>
    clear HB P2 PQ PR IQ IR
    obtain ⟨A, B, sa, ma, la, ka, sb, mb, lb, kb, hg, hla, hlb, hB, h2, hq, hr, hiq, hir⟩ := hrel
    have HG := hide hg
    have HLA := hide hla
    have HLB := hide hlb
    have HB := hide hB
    have P2 := hide h2
    have PQ := hide hq
    have PR := hide hr
    have IQ := hide hiq
    have IR := hide hir
    clear hg hla hlb hB h2 hq hr hiq hir
    have PR0 := hide PR.out
    have IR0 := hide IR.out
    have HLN := hide IR.out.len
    have hkb := HLN.out.2.2.1
    have hlk := HLN.out.2.2.2
    unfold maxLen at hkb
    have r1 := PR.out.cell1
    by_cases hB0 : B = 0
    · subst hB0
      have e0 : lb = 0 := HLN.out.1 rfl
      subst e0
      have q0 := PQ.out.cell0
      have q1 := PQ.out.cell1
      have hc0 := P2.out.cell0
      have hc1 := P2.out.cell1
      have hf0 := P2.out.free 0
      have hf1 := P2.out.free 1
      go_wp2
      refine ret_ref rfl (w.heap.size + 1 + 1) _ _ _ _ rfl ((P2.out.set0 _).set1 _) rfl ?_
      exact ⟨_, rfl, by have h := IQ.out.keep (P2.out.keeps (by simp) (by simp) (.bool sa) (.slice ma la ka)); have hg := HG.out; rw [Nat.gcd_zero_right] at hg; rw [← hg]; exact h, below_put HB.out (by omega) _ _⟩
    · have hlp : 0 < lb := HLN.out.2.1 (by omega)
      have HBP := hide (Nat.pos_of_ne_zero hB0)
      clear hB0
      have r0 := PR.out.cell0
      have q0 := PQ.out.cell0
      have q1 := PQ.out.cell1
      go_wp2_with fail
      refine (rdm_any _ _ (A : Int) (B : Int) _ IQ.out IR.out (by rw [Int.natAbs_natCast]; exact HLA.out) (by rw [Int.natAbs_natCast]; exact HLB.out) (by have := HBP.out; omega)).mono ?_
      rintro e u1 ⟨vq, vr, rfl, nq, nr, hb⟩
      obtain ⟨s3, m3, l3, k3, rfl, nq⟩ := nq.cells
      obtain ⟨s4, m4, l4, k4, rfl, nr⟩ := nr.cells
      rw [← Int.natCast_emod] at nr
      replace HB := hide (HB.out.trans (hb.mono HB.out.size))
      replace P2 := hide (P2.out.step hb)
      replace PQ := hide (PQ.out.step hb)
      replace PR := hide (PR.out.step hb)
      replace IR := hide (IR.out.below hb)
      have I4 := hide nr
      clear hb nq nr r0 r1 q0 q1 IQ
      go_upto_region 4 with fail
      have al1 := below_alloc u1 (.cells #[.bool s3, .slice m3 l3 k3] 30)
      have al2 := below_alloc (u1.alloc (.cells #[.bool s3, .slice m3 l3 k3] 30)) (.cells #[.bool s4, .slice m4 l4 k4] 30)
      have al := al1.trans (al2.mono (by rw [World.size_alloc]; omega))
      have LT4 : Hid (gq < u1.heap.size ∧ gr < u1.heap.size) := hide ⟨PQ.out.lt, PR.out.lt⟩
      have P4 := Box2.new (u1.alloc (.cells #[.bool s3, .slice m3 l3 k3] 30)) 30 (.bool s4) (.slice m4 l4 k4)
      rw [World.size_alloc] at P4
      replace P4 := hide P4
      replace HB := hide (HB.out.trans (al.mono HB.out.size))
      replace P2 := hide (P2.out.step al)
      replace PQ := hide (PQ.out.step al)
      replace PR := hide (PR.out.step al)
      replace IR := hide (IR.out.below al)
      replace I4 := hide (I4.out.below al)
      clear al1 al2 al
      generalize (u1.alloc (.cells #[.bool s3, .slice m3 l3 k3] 30)).alloc (.cells #[.bool s4, .slice m4 l4 k4] 30) = u2 at *
      generalize u1.heap.size = g4 at *
      have r0 := PR.out.cell0
      have r1 := PR.out.cell1
      have rf0 := PR.out.free 0
      have rf1 := PR.out.free 1
      have q0 := PQ.out.cell0
      have q1 := PQ.out.cell1
      have qf0 := PQ.out.free 0
      have qf1 := PQ.out.free 1
      have t0 := P4.out.cell0
      have t1 := P4.out.cell1
      have hne := LTS.out.2.2.2.2.2.2
      have hlt4 := LT4.out
      obtain ⟨hl41, hl42⟩ := hlt4
      go_wp2_with fail
      go_region
      all_goals
        go_wp2
        go_roundw
        case rel =>
          refine ⟨B, A % B, sb, mb, lb, kb, s4, m4, l4, k4, by rw [← HG.out, Nat.gcd_comm A B, Nat.gcd_rec B A, Nat.gcd_comm], HLB.out, Nat.le_trans (dlen_mono (Nat.mod_le A B)) HLA.out, ?_, ?_, ?_, ?_, ?_, ?_⟩
          · exact (below_put (below_put HB.out (show w.heap.size ≤ gq by have := LTS.out; omega) (.bool sb) (.slice mb lb kb)) (show w.heap.size ≤ gr by have := LTS.out; omega) (.bool s4) (.slice m4 l4 k4)).drew
          · exact ((P2.out.other (C := gq) (by have := LTS.out; omega) (.bool sb) (.slice mb lb kb)).other (C := gr) (by have := LTS.out; omega) (.bool s4) (.slice m4 l4 k4)).drew
          · exact ((PQ.out.put (.bool sb) (.slice mb lb kb)).other (C := gr) (by have := LTS.out; omega) (.bool s4) (.slice m4 l4 k4)).drew
          · exact ((PR.out.other (C := gq) (by have := LTS.out; omega) (.bool sb) (.slice mb lb kb)).put (.bool s4) (.slice m4 l4 k4)).drew
          · exact ((IR.out.keep (PQ.out.keeps (by simp) (by simp) (.bool sb) (.slice mb lb kb))).keep ((PR.out.other (C := gq) (by have := LTS.out; omega) (.bool sb) (.slice mb lb kb)).keeps (by simp) (by simp) (.bool s4) (.slice m4 l4 k4))).drew
          · exact ((I4.out.keep (PQ.out.keeps (by simp) (by simp) (.bool sb) (.slice mb lb kb))).keep ((PR.out.other (C := gq) (by have := LTS.out; omega) (.bool sb) (.slice mb lb kb)).keeps (by simp) (by simp) (.bool s4) (.slice m4 l4 k4))).drew
        case measure =>
          have e1 := dnumAt_eq PR0.out IR0.out
          have e2 := dnumAt_eq ((PR.out.other (C := gq) (by have := LTS.out; omega) (.bool sb) (.slice mb lb kb)).put (.bool s4) (.slice m4 l4 k4)).drew ((I4.out.keep (PQ.out.keeps (by simp) (by simp) (.bool sb) (.slice mb lb kb))).keep ((PR.out.other (C := gq) (by have := LTS.out; omega) (.bool sb) (.slice mb lb kb)).keeps (by simp) (by simp) (.bool s4) (.slice m4 l4 k4))).drew
          rw [e1, e2]
          exact Nat.mod_lt _ HBP.out
end Go.Proofs.Ytnldhpleicpjfaa

namespace Go.Proofs.Ytnldhpleicpjfaa
open Go.RowKit

set_option maxRecDepth 100000 in
set_option maxHeartbeats 1000000 in
theorem igcd_any (v1 v2 : Value) (x y : Int) (w : World) (h1 : IntAt w v1 x) (h2 : IntAt w v2 y) (l1 : (lim x.natAbs).length ≤ 1000000000) (l2 : (lim y.natAbs).length ≤ 1000000000) :
    Calls Try.prog 11 #[v1, v2] w fun e w' => ∃ v', e = .returned v' ∧ IntAt w' v' (Int.gcd x y : Int) ∧ Below w.heap.size w w' := by
  obtain ⟨b1, n1, a1, c1, rfl, hn1, rfl, h01⟩ := h1
  obtain ⟨b2, n2, a2, c2, rfl, hn2, rfl, h02⟩ := h2
  have HE := hide (boxes3 w (.bool b1) (.slice a1 (lim n1).length c1) (.bool b2) (.slice a2 (lim n2).length c2) (.bool false) (.slice none 0 0))
  have HN1 := hide (hn1.below HE.out.2.2.2)
  have HN2 := hide (hn2.below HE.out.2.2.2)
  rw [sg_abs] at l1 l2
  clear hn1 h01 hn2 h02
  go_enter Try.func11, Try.ntmps11
  go_wp2_with fail
  refine (gcd_any _ _ (lim n1) (lim n2) _ HN1.out HN2.out l1 l2).mono ?_
  rintro e w1 ⟨v, rfl, m1, hb1⟩
  rw [val_lim, val_lim] at m1
  have HM := hide m1
  have HX := hide (HE.out.2.2.1.step hb1)
  have HB := hide (HE.out.2.2.2.trans (hb1.mono HE.out.2.2.2.size))
  clear m1 hb1 HE
  go_wp2_with fail
  refine (made_any false (Nat.gcd n1 n2) _ _ HM.out).mono ?_
  rintro e w2 ⟨v, rfl, ⟨b', n', a', c', rfl, hn', he, h0⟩, hb2⟩
  replace HX := hide (HX.out.step hb2)
  replace HB := hide (HB.out.trans (hb2.mono HB.out.size))
  have hc0 := HX.out.cell0
  have hc1 := HX.out.cell1
  have hf0 := HX.out.free 0
  have hf1 := HX.out.free 1
  clear hb2
  go_wp2
  refine ret_int rfl (w.heap.size + 1 + 1) _ _ _ _ rfl ((HX.out.set0 _).set1 _) rfl ?_
  exact handed HX.out (by simp) (by simp) (by omega) HB.out hn' (by rw [← he]; simp [Int.gcd, sg_abs]) h0
end Go.Proofs.Ytnldhpleicpjfaa
