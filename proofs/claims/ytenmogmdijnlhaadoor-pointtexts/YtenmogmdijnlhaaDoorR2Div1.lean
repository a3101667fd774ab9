/- The document's answers for layer 2 (swageref02): divide, by one digit. -/
import Derived.Test.YtenmogmdijnlhaaDoorR2Law
import Derived.Test.YtenmogmdijnlhaaDoorDivMod
namespace Go.Proofs.YtenmogmdijnlhaaDoor
open Go.RowKit

set_option maxRecDepth 100000 in
set_option maxHeartbeats 1000000 in
theorem rnorm2_cut (s : Bool) (v : Value) (xs : List Nat) (w : World) (h : Nums w v xs) (hd : D.Ok xs) :
    Calls Tryd.prog 43 #[.bool s, v] w fun e w' => ∃ b l k, e = .returned (.agg #[.bool b, l]) ∧ Cut v l k ∧ k ≤ xs.length ∧ xs.take k = D.lim (D.val xs) ∧ RInt w' (.agg #[.bool b, l]) (sg s (D.val xs)) ∧ Below w.heap.size w w' := by
  have hN : Hid (Nums w v xs) := h
  have HD := hide hd
  rcases h.cases with ⟨rfl, a, cap, rfl, hcap⟩ | ⟨hpos, b, off, cap, rfl, hl, hm, hb, hc⟩
  · clear h hd
    unfold maxLen at hcap
    go_enter Tryd.func43, Tryd.ntmps43
    go_wp2
    refine wp_loop_rounds 1 ?_
    rw [rounds_succ]
    cases s <;> cases a
    all_goals
      go_wp2
      refine ret_ref rfl w.heap.size _ _ _ _ rfl (heap_alloc_new _ _) rfl ?_
      exact ⟨_, _, 0, rfl, ⟨_, _, _, rfl, rfl⟩, (Nat.zero_le _), D.take_lim (k := 0) HD.out (Nat.zero_le _) rfl (.inl rfl), dtrim_end (k := 0) hN.out HD.out (Nat.zero_le _) rfl (.inl rfl) (below_alloc w _) _ (by simp), below_alloc _ _⟩
  · clear h hd
    have hc' : ∀ i, i < xs.length → (w.alloc (.cells #[.bool false, .slice none 0 0] 61)).cell? ⟨b, off + i, none⟩ = some (.int .u32 (lm xs i : Nat)) := fun i hi => by
      rw [(below_alloc w _).cell (World.block_lt_of_cell? w _ (hc i hi))]; exact hc i hi
    clear hc
    unfold maxLen at hm
    go_enter Tryd.func43, Tryd.ntmps43
    go_wp2
    go_loopw [5] (fun n wr => ∃ k : Nat, k ≤ xs.length ∧ n = .int .i64 k ∧ D.val (xs.take k) = D.val xs ∧ wr = w.alloc (.cells #[.bool false, .slice none 0 0] 61)) (fun n _ => (intOf n).toNat)
    case atStart => exact ⟨xs.length, Nat.le_refl _, rfl, by rw [List.take_length], rfl⟩
    case round =>
      obtain ⟨k, hk, rfl, hv, rfl⟩ := hrel
      have HV : Hid (D.val (xs.take k) = D.val xs) := hv
      clear hv
      cases k with
      | zero =>
        cases s with
        | true =>
          go_wp2
          refine ret_ref rfl w.heap.size _ _ _ _ rfl (heap_alloc_new _ _) rfl ?_
          exact ⟨_, _, 0, rfl, ⟨_, _, _, rfl, rfl⟩, (Nat.zero_le _), D.take_lim HD.out (Nat.zero_le _) HV.out (.inl rfl), dtrim_end hN.out HD.out (Nat.zero_le _) HV.out (.inl rfl) (below_alloc _ _) _ (by simp), below_alloc _ _⟩
        | false =>
          go_wp2
          refine ret_ref rfl w.heap.size _ _ _ _ rfl (heap_alloc_new _ _) rfl ?_
          exact ⟨_, _, 0, rfl, ⟨_, _, _, rfl, rfl⟩, (Nat.zero_le _), D.take_lim HD.out (Nat.zero_le _) HV.out (.inl rfl), dtrim_end hN.out HD.out (Nat.zero_le _) HV.out (.inl rfl) (below_alloc _ _) _ (by simp), below_alloc _ _⟩
      | succ k =>
        have hck := hc' k (by omega)
        by_cases hz : lm xs k = 0
        · have hz' : (((lm xs k : Nat) : Int) == 0) = true := by simpa using hz
          have HZ : Hid (lm xs k = 0) := hz
          clear hz
          go_wp2
          go_roundw
          case rel => exact ⟨k, by omega, by go_num, dtrim_step hk HV.out HZ.out, trivial⟩
          case measure => simp [intOf]
        · have hz' : (((lm xs k : Nat) : Int) == 0) = false := by simpa using hz
          cases s with
          | true =>
            go_wp2
            refine ret_ref rfl w.heap.size _ _ _ _ rfl (heap_alloc_new _ _) rfl ?_
            exact ⟨_, _, _, rfl, ⟨_, _, _, rfl, rfl⟩, hk, D.take_lim HD.out hk HV.out (.inr hz), dtrim_end hN.out HD.out hk HV.out (.inr hz) (below_alloc _ _) _ (by simp), below_alloc _ _⟩
          | false =>
            go_wp2
            refine ret_ref rfl w.heap.size _ _ _ _ rfl (heap_alloc_new _ _) rfl ?_
            exact ⟨_, _, _, rfl, ⟨_, _, _, rfl, rfl⟩, hk, D.take_lim HD.out hk HV.out (.inr hz), dtrim_end hN.out HD.out hk HV.out (.inr hz) (below_alloc _ _) _ (by simp), below_alloc _ _⟩

/-- what is owned stays so under norm -/
theorem Own.norm {w w' : World} {base k : Nat} {v l : Value} {xs : List Nat} (h : Own w base v xs) (hc : Cut v l k) (hk : k ≤ xs.length) (ht : xs.take k = D.lim (D.val xs)) (hb : Below w.heap.size w w') : Own w' base l (D.lim (D.val xs)) := by
  rw [← ht]; exact (h.cut k hk hc).below hb
end Go.Proofs.YtenmogmdijnlhaaDoor

namespace Go.Proofs.YtenmogmdijnlhaaDoor
open Go.RowKit

/-- a division's state with k digits to go -/
structure DDiv (xs : List Nat) (d k r : Nat) (qs : List Nat) : Prop where
  len : qs.length = xs.length - k
  ok : D.Ok qs
  r1 : r < d
  sum : D.val (xs.drop k) = d * D.val qs + r
theorem ddrop_val (xs : List Nat) (k : Nat) (h : k < xs.length) : D.val (xs.drop k) = lm xs k + 65536 * D.val (xs.drop (k + 1)) := by
  rw [List.drop_eq_getElem_cons h, lm_get _ _ h]; simp [D.val, D.BB]
theorem DDiv.start (xs : List Nat) (d : Nat) (hd : 0 < d) : DDiv xs d xs.length 0 [] := ⟨by simp, D.Ok.nil, hd, by simp [D.val]⟩
theorem dquo_lt {r x d : Nat} (hd : 0 < d) (hr : r < d) (hx : x < 65536) : (r * 65536 + x) / d < 65536 := by
  rw [Nat.div_lt_iff_lt_mul hd]
  have h1 : (r + 1) * 65536 ≤ d * 65536 := Nat.mul_le_mul_right _ hr
  omega
theorem DDiv.step {xs : List Nat} {d k r : Nat} {qs : List Nat} (h : DDiv xs d (k + 1) r qs) (hx : D.Ok xs) (hk : k < xs.length) :
    DDiv xs d k ((r * 65536 + lm xs k) % d) ((r * 65536 + lm xs k) / d :: qs) := by
  have hr := h.r1
  have hd : 0 < d := by omega
  refine ⟨by simp [h.len]; omega, D.Ok.cons (dquo_lt hd hr (dlm_lt hx k)) h.ok, Nat.mod_lt _ hd, ?_⟩
  rw [ddrop_val xs k hk, h.sum]
  simp only [D.val, D.BB]
  have e := Nat.div_add_mod (r * 65536 + lm xs k) d
  have e2 : d * ((r * 65536 + lm xs k) / d + 65536 * D.val qs) = d * ((r * 65536 + lm xs k) / d) + 65536 * (d * D.val qs) := by rw [Nat.mul_add, Nat.mul_left_comm]
  omega
theorem ddiv_end {xs : List Nat} {d r : Nat} {qs : List Nat} (h : DDiv xs d 0 r qs) : D.val qs = D.val xs / d ∧ r = D.val xs % d := by
  have hs := h.sum
  have hr := h.r1
  rw [List.drop_zero] at hs
  constructor
  · rw [hs, Nat.mul_add_div (by omega), Nat.div_eq_of_lt hr, Nat.add_zero]
  · rw [hs, Nat.mul_add_mod, Nat.mod_eq_of_lt hr]
theorem ddiv_next {w wr : World} {base g d k r cap : Nat} {xs zs qs : List Nat} {s : Int} (hat : DDiv xs d (k + 1) r qs) (hx : D.Ok xs) (hk : k < xs.length) (hz : zs.length = xs.length)
    (hrow : RowC wr base g xs.length cap (zs.take (k + 1) ++ qs)) (hbel : Below base w wr) (hs : s = ((r * 65536 + lm xs k : Nat) : Int)) :
    ∃ (k' r' : Nat) (qs' : List Nat), k' ≤ xs.length ∧ Value.int .i64 (↑k - 1) = .int .i64 ((k' : Int) - 1) ∧ Value.int .u64 (s % ↑d) = .int .u64 r' ∧ DDiv xs d k' r' qs' ∧
      RowC (wr.setCell ⟨g, k, none⟩ (.int .u32 (s / ↑d % 4294967296))) base g xs.length cap (zs.take k' ++ qs') ∧ Below base w (wr.setCell ⟨g, k, none⟩ (.int .u32 (s / ↑d % 4294967296))) := by
  have hq : (r * 65536 + lm xs k) / d < 65536 := dquo_lt (by have := hat.r1; omega) hat.r1 (dlm_lt hx k)
  have e1 : s % (d : Int) = (((r * 65536 + lm xs k) % d : Nat) : Int) := by rw [hs, Int.natCast_emod]
  have e2 : s / (d : Int) % 4294967296 = (((r * 65536 + lm xs k) / d : Nat) : Int) := by
    rw [hs, ← Int.natCast_ediv]; generalize (r * 65536 + lm xs k) / d = q at hq ⊢; omega
  refine ⟨k, _, _, by omega, rfl, by rw [e1], hat.step hx hk, ?_, hbel.setCell hrow.ge _⟩
  rw [e2]
  have := hrow.set k ((r * 65536 + lm xs k) / d)
  rw [take_set_drop zs qs k _ (by omega)] at this
  exact this
theorem RInt.digits {w : World} {v : Value} {n : Nat} (h : RInt w v (sg false n)) : ∃ l, v = .agg #[.bool false, l] ∧ Nums w l (D.lim n) := by
  obtain ⟨b, k, a, c, rfl, hn, he, h0⟩ := h
  have e : k = n := by have := congrArg Int.natAbs he; rw [sg_abs, sg_abs] at this; exact this.symm
  subst e
  cases b with
  | false => exact ⟨_, rfl, hn⟩
  | true =>
    have : k ≠ 0 := fun e => absurd (h0 e) (by decide)
    rw [sg_true, sg_false] at he
    omega
theorem dnums_lit (w : World) (x : Int) (n : Nat) (hx : x = n) (hn : n < 65536) : Nums (w.alloc (.cells #[.int .u32 x] 87)) (.slice (some ⟨w.heap.size, 0, none⟩) 1 1) [n] ∧ D.Ok [n] :=
  ⟨Own.nums (base := w.heap.size) (by subst hx; exact World.ownsRow_lit w #[.int .u32 (n : Int)] 1 (Nat.le_refl _) (by simp [maxLen]) rfl) (Ok.cons (by unfold BB; omega) Ok.nil), D.Ok.cons hn D.Ok.nil⟩
theorem Tryd.fieldD (W : World) (x l : Value) : Sem.run Tryd.prog (Instr.field 61 (.agg #[x, l]) 1) W = .ok l W := by kernel_rfl

set_option maxRecDepth 100000 in
set_option maxHeartbeats 4000000 in
theorem rdiv1_any (v1 v2 : Value) (m b : Nat) (w : World) (h1 : Nums w v1 (D.lim m)) (h2 : Nums w v2 [b]) (hb : 0 < b) (hb' : b < 65536) (l1 : (D.lim m).length ≤ 100000000) :
    Calls Tryd.prog 51 #[v1, v2] w fun e w' => ∃ q r, e = .returned (.tuple #[q, r]) ∧ Own w' w.heap.size q (D.lim (m / b)) ∧ Nums w' r (D.lim (m % b)) ∧ Below w.heap.size w w' := by
  obtain ⟨i0, hi, hz0, hz1, hz2⟩ := info_parts Tryd.info87
  have HN1 := hide h1
  have HVL := hide (D.val_lim m)
  have HOK := hide (D.ok_lim m)
  obtain ⟨_, a1, c1, rfl, hl1, hm1, hc1⟩ := h1
  obtain ⟨_, a2, c2, rfl, hl2, hm2, hc2⟩ := h2
  obtain ⟨B2, o2, rfl, hx2⟩ := hc2 (by simp)
  have HX2 : Hid (w.cell? ⟨B2, o2, none⟩ = some (.int .u32 (b : Nat))) := hide (by have := hx2 0 (by simp); simpa [lm] using this)
  have HC1 := hide hc1
  unfold maxLen at hm1 hm2
  clear hc1 hc2 hx2
  generalize D.lim m = L at *
  simp only [List.length_cons, List.length_nil, Nat.zero_add] at *
  go_enter Tryd.func51, Tryd.ntmps51
  go_wp2_with (at_make; refine wpList_make_full _ rfl _ _ 54 rfl w.heap.size 87 i0 (.int .u32 0) 1 Tryd.underlying54 hi hz0 hz1 _ _ _ _ L.length rfl rfl ?_ ?_ ?_ ?_ (Nat.le_refl _) ?_)
  all_goals try (first | rfl | omega)
  all_goals try (rw [hz2]; omega)
  all_goals try (unfold maxLen; omega)
  intro w2 hown hgrow
  have HB2 : Hid (Below w.heap.size w w2) := hide ((Below.refl _ _).grown hgrow (Nat.le_refl _) (fun k hk => by simp at hk))
  have HR2 : Hid (RowC w2 w.heap.size w.heap.size L.length L.length (List.replicate L.length 0)) := hide (by rw [made_fil] at hown; unfold RowC; simpa [fil] using hown)
  clear hown hgrow
  go_wp2
  go_loopw [7, 8] (fun rv iv wx => ∃ (k r : Nat) (qs : List Nat), k ≤ L.length ∧ iv = .int .i64 ((k : Int) - 1) ∧ rv = .int .u64 r ∧ DDiv L b k r qs ∧ RowC wx w.heap.size w.heap.size L.length L.length ((List.replicate L.length 0).take k ++ qs) ∧ Below w.heap.size w wx) (fun _ iv _ => (intOf iv + 1).toNat)
  case atStart => exact ⟨L.length, 0, [], Nat.le_refl _, by go_num, rfl, DDiv.start L b hb, by simpa using HR2.out, HB2.out⟩
  case round =>
    clear HR2 HB2
    obtain ⟨k, r, qs, hk, rfl, rfl, hat, hrow, hbel⟩ := hrel
    have hr := hat.r1
    cases k with
    | zero =>
      obtain ⟨hq1, hq2⟩ := ddiv_end hat
      have hlen : qs.length = L.length := by rw [hat.len]; omega
      rw [List.take_zero, List.nil_append] at hrow
      have HQ := hide (And.intro hq1 hq2)
      have HQN := hide (hrow.nums hlen (dok hat.ok))
      have HOW : Hid (Own wr w.heap.size (.slice (some ⟨w.heap.size, 0, none⟩) L.length L.length) qs) := hide (by unfold Own; rw [hlen]; exact hrow)
      have HQO := hide hat.ok
      have HBW := hide hbel
      clear hat hrow hbel hq1 hq2 hlen
      go_wp2_with fail
      refine (rnorm2_cut false _ qs _ HQN.out HQO.out).mono ?_
      rintro e w3 ⟨b3, l3, k3, rfl, hcut, hk3, ht3, hR3, hb3⟩
      have n3 := HOW.out.norm hcut hk3 ht3 hb3
      rw [HQ.out.1, HVL.out] at n3
      replace HBW := hide (HBW.out.trans (hb3.mono HBW.out.size))
      have HN3 := hide n3
      clear hR3 hb3 n3 HQN HQO HOW hcut hk3 ht3
      have hrI : ((r : Nat) : Int) < 65536 := by omega
      have hfld := Tryd.fieldD
      go_wp2_with fail
      have HL4 := hide (dnums_lit w3 ((r : Nat) : Int) r rfl (by omega))
      refine (rnorm2_any false _ [r] _ HL4.out.1 HL4.out.2).mono ?_
      rintro e w4 ⟨v4, rfl, hR4, hb4⟩
      rw [show D.val [r] = r by simp [D.val]] at hR4
      obtain ⟨l4, rfl, n4⟩ := hR4.digits
      have hal := below_alloc w3 (.cells #[.int .u32 ((r : Nat) : Int)] 87)
      replace HN3 := hide ((HN3.out.below hal).below hb4)
      replace HBW := hide ((HBW.out.trans (hal.mono HBW.out.size)).trans (hb4.mono (by have := HBW.out.size; rw [World.size_alloc]; omega)))
      have HN4 := hide n4
      clear hR4 hb4 n4 hal HL4
      go_wp2
      go_ret2
      exact ⟨_, _, rfl, HN3.out, by have := HN4.out; rwa [HQ.out.2, HVL.out] at this, HBW.out⟩
    | succ k =>
      obtain ⟨bA, oA, rfl, hxA⟩ := HC1.out (ne_nil (k := k) (by omega))
      have hx' : wr.cell? ⟨bA, oA + k, none⟩ = some (.int .u32 (lm L k : Nat)) := by
        have h0 := hxA k (by omega)
        rw [hbel.cell (World.block_lt_of_cell? w _ h0)]; exact h0
      have hx2 : wr.cell? ⟨B2, o2, none⟩ = some (.int .u32 (b : Nat)) := by
        have h0 := HX2.out
        rw [hbel.cell (World.block_lt_of_cell? w _ h0)]; exact h0
      have hB2 : B2 < w.heap.size := World.block_lt_of_cell? w _ HX2.out
      have hxb := dlm_lt HOK.out k
      have hfr := hrow.free k
      have hcl := hrow.cell (by rw [List.length_append, List.length_take, List.length_replicate, hat.len]; omega) k (by omega)
      have HAT := hide hat
      have HRW := hide hrow
      have HBW := hide hbel
      clear hat hrow hbel hxA
      go_wp2
      go_roundw
      case rel =>
        exact ddiv_next HAT.out HOK.out (by omega) (by simp) HRW.out HBW.out (s := (r : Int) * 65536 + (lm L k : Int)) (by omega)
      case measure => simp [intOf]
end Go.Proofs.YtenmogmdijnlhaaDoor
