/- The document's answers for layer 2 (swageref02): divide. -/
import Derived.Test.YtmibgcpafccliaaDoorR2Law
import Derived.Test.YtmibgcpafccliaaDoorDivMod
import Derived.Test.YtmibgcpafccliaaDoorR2Bits
import Derived.RegionTactic
import Derived.Laws.BitsAllLaws
namespace Go.Proofs.YtmibgcpafccliaaDoor
open Go.RowKit

set_option maxRecDepth 100000 in
set_option maxHeartbeats 1000000 in
theorem rnorm2_cut (s : Bool) (v : Value) (xs : List Nat) (w : World) (h : Nums w v xs) (hd : D.Ok xs) :
    Calls Tryd.prog 66 #[.bool s, v] w fun e w' => ∃ b l k, e = .returned (.agg #[.bool b, l]) ∧ Cut v l k ∧ k ≤ xs.length ∧ xs.take k = D.lim (D.val xs) ∧ RInt w' (.agg #[.bool b, l]) (sg s (D.val xs)) ∧ Below w.heap.size w w' := by
  have hN : Hid (Nums w v xs) := h
  have HD := hide hd
  rcases h.cases with ⟨rfl, a, cap, rfl, hcap⟩ | ⟨hpos, b, off, cap, rfl, hl, hm, hb, hc⟩
  · clear h hd
    unfold maxLen at hcap
    go_enter Tryd.func66, Tryd.ntmps66
    go_wp2
    refine wp_loop_rounds 1 ?_
    rw [rounds_succ]
    cases s <;> cases a
    all_goals
      go_wp2
      refine ret_ref rfl w.heap.size _ _ _ _ rfl (heap_alloc_new _ _) rfl ?_
      exact ⟨_, _, 0, rfl, ⟨_, _, _, rfl, rfl⟩, (Nat.zero_le _), D.take_lim (k := 0) HD.out (Nat.zero_le _) rfl (.inl rfl), dtrim_end (k := 0) hN.out HD.out (Nat.zero_le _) rfl (.inl rfl) (below_alloc w _) _ (by simp), below_alloc _ _⟩
  · clear h hd
    have hc' : ∀ i, i < xs.length → (w.alloc (.cells #[.bool false, .slice none 0 0] 46)).cell? ⟨b, off + i, none⟩ = some (.int .u32 (lm xs i : Nat)) := fun i hi => by
      rw [(below_alloc w _).cell (World.block_lt_of_cell? w _ (hc i hi))]; exact hc i hi
    clear hc
    unfold maxLen at hm
    go_enter Tryd.func66, Tryd.ntmps66
    go_wp2
    go_loopw [5] (fun n wr => ∃ k : Nat, k ≤ xs.length ∧ n = .int .i64 k ∧ D.val (xs.take k) = D.val xs ∧ wr = w.alloc (.cells #[.bool false, .slice none 0 0] 46)) (fun n _ => (intOf n).toNat)
    case atStart => exact ⟨xs.length, Nat.le_refl _, rfl, by rw [List.take_length], rfl⟩
    case round =>
      obtain ⟨k, hk, rfl, hv, rfl⟩ := hrel
      have HV : Hid (D.val (xs.take k) = D.val xs) := hv
      clear hv
      cases k with
      | zero =>
        cases s with
        | true =>
          go_wp2
          refine ret_ref rfl w.heap.size _ _ _ _ rfl (heap_alloc_new _ _) rfl ?_
          exact ⟨_, _, 0, rfl, ⟨_, _, _, rfl, rfl⟩, (Nat.zero_le _), D.take_lim HD.out (Nat.zero_le _) HV.out (.inl rfl), dtrim_end hN.out HD.out (Nat.zero_le _) HV.out (.inl rfl) (below_alloc _ _) _ (by simp), below_alloc _ _⟩
        | false =>
          go_wp2
          refine ret_ref rfl w.heap.size _ _ _ _ rfl (heap_alloc_new _ _) rfl ?_
          exact ⟨_, _, 0, rfl, ⟨_, _, _, rfl, rfl⟩, (Nat.zero_le _), D.take_lim HD.out (Nat.zero_le _) HV.out (.inl rfl), dtrim_end hN.out HD.out (Nat.zero_le _) HV.out (.inl rfl) (below_alloc _ _) _ (by simp), below_alloc _ _⟩
      | succ k =>
        have hck := hc' k (by omega)
        by_cases hz : lm xs k = 0
        · have hz' : (((lm xs k : Nat) : Int) == 0) = true := by simpa using hz
          have HZ : Hid (lm xs k = 0) := hz
          clear hz
          go_wp2
          go_roundw
          case rel => exact ⟨k, by omega, by go_num, dtrim_step hk HV.out HZ.out, trivial⟩
          case measure => simp [intOf]
        · have hz' : (((lm xs k : Nat) : Int) == 0) = false := by simpa using hz
          cases s with
          | true =>
            go_wp2
            refine ret_ref rfl w.heap.size _ _ _ _ rfl (heap_alloc_new _ _) rfl ?_
            exact ⟨_, _, _, rfl, ⟨_, _, _, rfl, rfl⟩, hk, D.take_lim HD.out hk HV.out (.inr hz), dtrim_end hN.out HD.out hk HV.out (.inr hz) (below_alloc _ _) _ (by simp), below_alloc _ _⟩
          | false =>
            go_wp2
            refine ret_ref rfl w.heap.size _ _ _ _ rfl (heap_alloc_new _ _) rfl ?_
            exact ⟨_, _, _, rfl, ⟨_, _, _, rfl, rfl⟩, hk, D.take_lim HD.out hk HV.out (.inr hz), dtrim_end hN.out HD.out hk HV.out (.inr hz) (below_alloc _ _) _ (by simp), below_alloc _ _⟩

/-- what is owned stays so under norm -/
theorem Own.norm {w w' : World} {base k : Nat} {v l : Value} {xs : List Nat} (h : Own w base v xs) (hc : Cut v l k) (hk : k ≤ xs.length) (ht : xs.take k = D.lim (D.val xs)) (hb : Below w.heap.size w w') : Own w' base l (D.lim (D.val xs)) := by
  rw [← ht]; exact (h.cut k hk hc).below hb
end Go.Proofs.YtmibgcpafccliaaDoor

namespace Go.Proofs.YtmibgcpafccliaaDoor
open Go.RowKit

/-- a division's state with k digits to go -/
structure DDiv (xs : List Nat) (d k r : Nat) (qs : List Nat) : Prop where
  len : qs.length = xs.length - k
  ok : D.Ok qs
  r1 : r < d
  sum : D.val (xs.drop k) = d * D.val qs + r
theorem ddrop_val (xs : List Nat) (k : Nat) (h : k < xs.length) : D.val (xs.drop k) = lm xs k + 65536 * D.val (xs.drop (k + 1)) := by
  rw [List.drop_eq_getElem_cons h, lm_get _ _ h]; simp [D.val, D.BB]
theorem DDiv.start (xs : List Nat) (d : Nat) (hd : 0 < d) : DDiv xs d xs.length 0 [] := ⟨by simp, D.Ok.nil, hd, by simp [D.val]⟩
theorem dquo_lt {r x d : Nat} (hd : 0 < d) (hr : r < d) (hx : x < 65536) : (r * 65536 + x) / d < 65536 := by
  rw [Nat.div_lt_iff_lt_mul hd]
  have h1 : (r + 1) * 65536 ≤ d * 65536 := Nat.mul_le_mul_right _ hr
  omega
theorem DDiv.step {xs : List Nat} {d k r : Nat} {qs : List Nat} (h : DDiv xs d (k + 1) r qs) (hx : D.Ok xs) (hk : k < xs.length) :
    DDiv xs d k ((r * 65536 + lm xs k) % d) ((r * 65536 + lm xs k) / d :: qs) := by
  have hr := h.r1
  have hd : 0 < d := by omega
  refine ⟨by simp [h.len]; omega, D.Ok.cons (dquo_lt hd hr (dlm_lt hx k)) h.ok, Nat.mod_lt _ hd, ?_⟩
  rw [ddrop_val xs k hk, h.sum]
  simp only [D.val, D.BB]
  have e := Nat.div_add_mod (r * 65536 + lm xs k) d
  have e2 : d * ((r * 65536 + lm xs k) / d + 65536 * D.val qs) = d * ((r * 65536 + lm xs k) / d) + 65536 * (d * D.val qs) := by rw [Nat.mul_add, Nat.mul_left_comm]
  omega
theorem ddiv_end {xs : List Nat} {d r : Nat} {qs : List Nat} (h : DDiv xs d 0 r qs) : D.val qs = D.val xs / d ∧ r = D.val xs % d := by
  have hs := h.sum
  have hr := h.r1
  rw [List.drop_zero] at hs
  constructor
  · rw [hs, Nat.mul_add_div (by omega), Nat.div_eq_of_lt hr, Nat.add_zero]
  · rw [hs, Nat.mul_add_mod, Nat.mod_eq_of_lt hr]
theorem ddiv_next {w wr : World} {base g d k r cap : Nat} {xs zs qs : List Nat} {s : Int} (hat : DDiv xs d (k + 1) r qs) (hx : D.Ok xs) (hk : k < xs.length) (hz : zs.length = xs.length)
    (hrow : RowC wr base g xs.length cap (zs.take (k + 1) ++ qs)) (hbel : Below base w wr) (hs : s = ((r * 65536 + lm xs k : Nat) : Int)) :
    ∃ (k' r' : Nat) (qs' : List Nat), k' ≤ xs.length ∧ Value.int .i64 (↑k - 1) = .int .i64 ((k' : Int) - 1) ∧ Value.int .u64 (s % ↑d) = .int .u64 r' ∧ DDiv xs d k' r' qs' ∧
      RowC (wr.setCell ⟨g, k, none⟩ (.int .u32 (s / ↑d % 4294967296))) base g xs.length cap (zs.take k' ++ qs') ∧ Below base w (wr.setCell ⟨g, k, none⟩ (.int .u32 (s / ↑d % 4294967296))) := by
  have hq : (r * 65536 + lm xs k) / d < 65536 := dquo_lt (by have := hat.r1; omega) hat.r1 (dlm_lt hx k)
  have e1 : s % (d : Int) = (((r * 65536 + lm xs k) % d : Nat) : Int) := by rw [hs, Int.natCast_emod]
  have e2 : s / (d : Int) % 4294967296 = (((r * 65536 + lm xs k) / d : Nat) : Int) := by
    rw [hs, ← Int.natCast_ediv]; generalize (r * 65536 + lm xs k) / d = q at hq ⊢; omega
  refine ⟨k, _, _, by omega, rfl, by rw [e1], hat.step hx hk, ?_, hbel.setCell hrow.ge _⟩
  rw [e2]
  have := hrow.set k ((r * 65536 + lm xs k) / d)
  rw [take_set_drop zs qs k _ (by omega)] at this
  exact this
theorem RInt.digits {w : World} {v : Value} {n : Nat} (h : RInt w v (sg false n)) : ∃ l, v = .agg #[.bool false, l] ∧ Nums w l (D.lim n) := by
  obtain ⟨b, k, a, c, rfl, hn, he, h0⟩ := h
  have e : k = n := by have := congrArg Int.natAbs he; rw [sg_abs, sg_abs] at this; exact this.symm
  subst e
  cases b with
  | false => exact ⟨_, rfl, hn⟩
  | true =>
    have : k ≠ 0 := fun e => absurd (h0 e) (by decide)
    rw [sg_true, sg_false] at he
    omega
theorem dnums_lit (w : World) (x : Int) (n : Nat) (hx : x = n) (hn : n < 65536) : Nums (w.alloc (.cells #[.int .u32 x] 32)) (.slice (some ⟨w.heap.size, 0, none⟩) 1 1) [n] ∧ D.Ok [n] :=
  ⟨Own.nums (base := w.heap.size) (by subst hx; exact World.ownsRow_lit w #[.int .u32 (n : Int)] 1 (Nat.le_refl _) (by simp [maxLen]) rfl) (Ok.cons (by unfold BB; omega) Ok.nil), D.Ok.cons hn D.Ok.nil⟩
theorem Tryd.fieldD (W : World) (x l : Value) : Sem.run Tryd.prog (Instr.field 46 (.agg #[x, l]) 1) W = .ok l W := by kernel_rfl

set_option maxRecDepth 100000 in
set_option maxHeartbeats 4000000 in
theorem rdiv1_any (v1 v2 : Value) (m b : Nat) (w : World) (h1 : Nums w v1 (D.lim m)) (h2 : Nums w v2 [b]) (hb : 0 < b) (hb' : b < 65536) (l1 : (D.lim m).length ≤ 100000000) :
    Calls Tryd.prog 79 #[v1, v2] w fun e w' => ∃ q r, e = .returned (.tuple #[q, r]) ∧ Own w' w.heap.size q (D.lim (m / b)) ∧ Nums w' r (D.lim (m % b)) ∧ Below w.heap.size w w' := by
  obtain ⟨i0, hi, hz0, hz1, hz2⟩ := info_parts Tryd.info32
  have HN1 := hide h1
  have HVL := hide (D.val_lim m)
  have HOK := hide (D.ok_lim m)
  obtain ⟨_, a1, c1, rfl, hl1, hm1, hc1⟩ := h1
  obtain ⟨_, a2, c2, rfl, hl2, hm2, hc2⟩ := h2
  obtain ⟨B2, o2, rfl, hx2⟩ := hc2 (by simp)
  have HX2 : Hid (w.cell? ⟨B2, o2, none⟩ = some (.int .u32 (b : Nat))) := hide (by have := hx2 0 (by simp); simpa [lm] using this)
  have HC1 := hide hc1
  unfold maxLen at hm1 hm2
  clear hc1 hc2 hx2
  generalize D.lim m = L at *
  simp only [List.length_cons, List.length_nil, Nat.zero_add] at *
  go_enter Tryd.func79, Tryd.ntmps79
  go_wp2_with (at_make; refine wpList_make_full _ rfl _ _ 22 rfl w.heap.size 32 i0 (.int .u32 0) 1 Tryd.underlying22 hi hz0 hz1 _ _ _ _ L.length rfl rfl ?_ ?_ ?_ ?_ (Nat.le_refl _) ?_)
  all_goals try (first | rfl | omega)
  all_goals try (rw [hz2]; omega)
  all_goals try (unfold maxLen; omega)
  intro w2 hown hgrow
  have HB2 : Hid (Below w.heap.size w w2) := hide ((Below.refl _ _).grown hgrow (Nat.le_refl _) (fun k hk => by simp at hk))
  have HR2 : Hid (RowC w2 w.heap.size w.heap.size L.length L.length (List.replicate L.length 0)) := hide (by rw [made_fil] at hown; unfold RowC; simpa [fil] using hown)
  clear hown hgrow
  go_wp2
  go_loopw [7, 8] (fun rv iv wx => ∃ (k r : Nat) (qs : List Nat), k ≤ L.length ∧ iv = .int .i64 ((k : Int) - 1) ∧ rv = .int .u64 r ∧ DDiv L b k r qs ∧ RowC wx w.heap.size w.heap.size L.length L.length ((List.replicate L.length 0).take k ++ qs) ∧ Below w.heap.size w wx) (fun _ iv _ => (intOf iv + 1).toNat)
  case atStart => exact ⟨L.length, 0, [], Nat.le_refl _, by go_num, rfl, DDiv.start L b hb, by simpa using HR2.out, HB2.out⟩
  case round =>
    clear HR2 HB2
    obtain ⟨k, r, qs, hk, rfl, rfl, hat, hrow, hbel⟩ := hrel
    have hr := hat.r1
    cases k with
    | zero =>
      obtain ⟨hq1, hq2⟩ := ddiv_end hat
      have hlen : qs.length = L.length := by rw [hat.len]; omega
      rw [List.take_zero, List.nil_append] at hrow
      have HQ := hide (And.intro hq1 hq2)
      have HQN := hide (hrow.nums hlen (dok hat.ok))
      have HOW : Hid (Own wr w.heap.size (.slice (some ⟨w.heap.size, 0, none⟩) L.length L.length) qs) := hide (by unfold Own; rw [hlen]; exact hrow)
      have HQO := hide hat.ok
      have HBW := hide hbel
      clear hat hrow hbel hq1 hq2 hlen
      go_wp2_with fail
      refine (rnorm2_cut false _ qs _ HQN.out HQO.out).mono ?_
      rintro e w3 ⟨b3, l3, k3, rfl, hcut, hk3, ht3, hR3, hb3⟩
      have n3 := HOW.out.norm hcut hk3 ht3 hb3
      rw [HQ.out.1, HVL.out] at n3
      replace HBW := hide (HBW.out.trans (hb3.mono HBW.out.size))
      have HN3 := hide n3
      clear hR3 hb3 n3 HQN HQO HOW hcut hk3 ht3
      have hrI : ((r : Nat) : Int) < 65536 := by omega
      have hfld := Tryd.fieldD
      go_wp2_with fail
      have HL4 := hide (dnums_lit w3 ((r : Nat) : Int) r rfl (by omega))
      refine (rnorm2_any false _ [r] _ HL4.out.1 HL4.out.2).mono ?_
      rintro e w4 ⟨v4, rfl, hR4, hb4⟩
      rw [show D.val [r] = r by simp [D.val]] at hR4
      obtain ⟨l4, rfl, n4⟩ := hR4.digits
      have hal := below_alloc w3 (.cells #[.int .u32 ((r : Nat) : Int)] 32)
      replace HN3 := hide ((HN3.out.below hal).below hb4)
      replace HBW := hide ((HBW.out.trans (hal.mono HBW.out.size)).trans (hb4.mono (by have := HBW.out.size; rw [World.size_alloc]; omega)))
      have HN4 := hide n4
      clear hR4 hb4 n4 hal HL4
      go_wp2
      go_ret2
      exact ⟨_, _, rfl, HN3.out, by have := HN4.out; rwa [HQ.out.2, HVL.out] at this, HBW.out⟩
    | succ k =>
      obtain ⟨bA, oA, rfl, hxA⟩ := HC1.out (ne_nil (k := k) (by omega))
      have hx' : wr.cell? ⟨bA, oA + k, none⟩ = some (.int .u32 (lm L k : Nat)) := by
        have h0 := hxA k (by omega)
        rw [hbel.cell (World.block_lt_of_cell? w _ h0)]; exact h0
      have hx2 : wr.cell? ⟨B2, o2, none⟩ = some (.int .u32 (b : Nat)) := by
        have h0 := HX2.out
        rw [hbel.cell (World.block_lt_of_cell? w _ h0)]; exact h0
      have hB2 : B2 < w.heap.size := World.block_lt_of_cell? w _ HX2.out
      have hxb := dlm_lt HOK.out k
      have hfr := hrow.free k
      have hcl := hrow.cell (by rw [List.length_append, List.length_take, List.length_replicate, hat.len]; omega) k (by omega)
      have HAT := hide hat
      have HRW := hide hrow
      have HBW := hide hbel
      clear hat hrow hbel hxA
      go_wp2
      go_roundw
      case rel =>
        exact ddiv_next HAT.out HOK.out (by omega) (by simp) HRW.out HBW.out (s := (r : Int) * 65536 + (lm L k : Int)) (by omega)
      case measure => simp [intOf]
end Go.Proofs.YtmibgcpafccliaaDoor

namespace Go.Proofs.YtmibgcpafccliaaDoor
open Go.RowKit

/-- twice a number, and one more perhaps: behind i digits -/
structure DDbl (xs : List Nat) (c0 i c : Nat) (A : List Nat) : Prop where
  len : A.length = i
  ok : D.Ok A
  c1 : c ≤ 1
  sum : D.val A + 65536 ^ i * c = 2 * D.val (xs.take i) + c0
theorem DDbl.zero (xs : List Nat) (c0 : Nat) (h : c0 ≤ 1) : DDbl xs c0 0 c0 [] := ⟨rfl, D.Ok.nil, h, by simp [D.val]⟩
theorem DDbl.step {xs : List Nat} {c0 i c : Nat} {A : List Nat} (h : DDbl xs c0 i c A) (hx : D.Ok xs) : DDbl xs c0 (i + 1) ((c + 2 * lm xs i) / 65536) (A ++ [(c + 2 * lm xs i) % 65536]) := by
  have h1 := dlm_lt hx i
  have h2 := h.c1
  refine ⟨by simp [h.len], h.ok.append (D.Ok.cons (Nat.mod_lt _ (by decide)) D.Ok.nil), by omega, ?_⟩
  have hs := h.sum
  have em := Nat.mod_add_div (c + 2 * lm xs i) 65536
  rw [D.val_append, h.len, dtake_succ, Nat.pow_succ]
  simp only [D.val, Nat.mul_zero, Nat.add_zero]
  show D.val A + 65536 ^ i * ((c + 2 * lm xs i) % 65536) + 65536 ^ i * 65536 * ((c + 2 * lm xs i) / 65536) = 2 * (D.val (xs.take i) + 65536 ^ i * lm xs i) + c0
  have e : 65536 ^ i * ((c + 2 * lm xs i) % 65536) + 65536 ^ i * 65536 * ((c + 2 * lm xs i) / 65536) = 65536 ^ i * c + 2 * (65536 ^ i * lm xs i) := by
    rw [Nat.mul_assoc, ← Nat.mul_add, em, Nat.mul_add, Nat.mul_left_comm]
  omega
theorem dlim_of {A : List Nat} (h : D.Ok A) (hl : A = [] ∨ 65536 ^ (A.length - 1) ≤ D.val A) : D.lim (D.val A) = A := by
  refine D.lim_val h (fun x hx => ?_)
  rcases hl with rfl | hl
  · simp at hx
  · rintro rfl
    have hne : A ≠ [] := by rintro rfl; simp at hx
    have e := List.dropLast_concat_getLast hne
    have e2 : A.getLast hne = 0 := by rw [List.getLast?_eq_some_getLast hne] at hx; simpa using hx
    rw [e2] at e
    have h1 : D.val A = D.val A.dropLast := by
      conv => lhs; rw [← e]
      rw [D.val_append]; simp [D.val]
    have h2 : D.val A.dropLast < D.BB ^ A.dropLast.length := D.val_lt (fun y hy => h y (List.dropLast_subset A hy))
    rw [List.length_dropLast] at h2
    have h3 : D.BB ^ (A.length - 1) = 65536 ^ (A.length - 1) := rfl
    omega
theorem dlim_lo {R : Nat} (h : 0 < R) : 65536 ^ ((D.lim R).length - 1) ≤ R := by
  have hp : 0 < (D.lim R).length := by rw [D.lim_pos h]; simp
  have ht := dtop_div (L := D.lim R) (n := (D.lim R).length - 1) (D.ok_lim R) (by omega)
  rw [D.val_lim] at ht
  have hn := dlim_last hp
  rw [← ht] at hn
  have := (Nat.div_pos_iff.1 (Nat.pos_of_ne_zero hn)).2
  rw [← dbb_pow] at this
  exact this
/-- the digits of twice a number, and one more perhaps -/
theorem DDbl.end {R c0 c : Nat} {A : List Nat} (h : DDbl (D.lim R) c0 (D.lim R).length c A) : (c = 0 → A = D.lim (2 * R + c0)) ∧ (c ≠ 0 → A ++ [c] = D.lim (2 * R + c0)) := by
  have hs := h.sum
  rw [List.take_length, D.val_lim] at hs
  have hc := h.c1
  constructor
  · intro h0
    rw [h0, Nat.mul_zero, Nat.add_zero] at hs
    rw [← hs]
    refine (dlim_of h.ok ?_).symm
    rcases Nat.eq_zero_or_pos R with hR | hR
    · left
      have : A.length = 0 := by rw [h.len, hR]; rfl
      exact List.length_eq_zero_iff.1 this
    · right
      rw [h.len, hs]
      have := dlim_lo hR
      omega
  · intro h1
    have e1 : c = 1 := by omega
    subst e1
    rw [Nat.mul_one] at hs
    have e2 : D.val (A ++ [1]) = 2 * R + c0 := by
      rw [D.val_append, h.len, ← hs]; simp [D.val, D.BB]
    rw [← e2]
    refine (dlim_of (h.ok.append (D.Ok.cons (by decide) D.Ok.nil)) (.inr ?_)).symm
    rw [D.val_append, List.length_append]
    simp [D.val, D.BB]
theorem dbl_set (A xs : List Nat) (i x : Nat) (hA : A.length = i) (hi : i < xs.length) : (A ++ xs.drop i).set i x = (A ++ [x]) ++ xs.drop (i + 1) := by
  rw [List.set_append_right _ _ (by omega), hA, Nat.sub_self, List.drop_eq_getElem_cons hi, List.set_cons_zero, List.append_assoc]
  rfl
theorem dbl_at (A xs : List Nat) (i : Nat) (hA : A.length = i) : lm (A ++ xs.drop i) i = lm xs i := by
  unfold lm
  rw [List.getD_eq_getElem?_getD, List.getD_eq_getElem?_getD, List.getElem?_append_right (by omega), hA, Nat.sub_self, List.getElem?_drop, Nat.add_zero]
/-- one bit of a quotient -/
theorem bit_yes {m n k R1 : Nat} (hn : 0 < n) (hR1 : R1 = 2 * (m / 2 ^ (k + 1) % n) + m / 2 ^ k % 2) : (n ≤ R1 → m / 2 ^ k / n = 2 * (m / 2 ^ (k + 1) / n) + 1 ∧ m / 2 ^ k % n = R1 - n) ∧ (R1 < n → m / 2 ^ k / n = 2 * (m / 2 ^ (k + 1) / n) ∧ m / 2 ^ k % n = R1) := by
  have e : m / 2 ^ k = 2 * (m / 2 ^ (k + 1)) + m / 2 ^ k % 2 := by
    rw [Nat.pow_succ, ← Nat.div_div_eq_div_mul]; omega
  have hd := Nat.div_add_mod (m / 2 ^ (k + 1)) n
  have hm := Nat.mod_lt (m / 2 ^ (k + 1)) hn
  generalize m / 2 ^ (k + 1) / n = Q at *
  generalize m / 2 ^ (k + 1) % n = R at *
  generalize m / 2 ^ (k + 1) = Y at *
  have hb : m / 2 ^ k % 2 ≤ 1 := by omega
  have e2 : m / 2 ^ k = n * (2 * Q) + R1 := by
    rw [Nat.mul_left_comm]; omega
  generalize m / 2 ^ k = X at *
  constructor
  · intro h
    have e3 : X = n * (2 * Q + 1) + (R1 - n) := by rw [Nat.mul_add, Nat.mul_one]; omega
    have hlt : R1 - n < n := by omega
    rw [e3, Nat.mul_add_div hn, Nat.div_eq_of_lt hlt, Nat.mul_add_mod, Nat.mod_eq_of_lt hlt]
    exact ⟨rfl, rfl⟩
  · intro h
    rw [e2, Nat.mul_add_div hn, Nat.div_eq_of_lt h, Nat.mul_add_mod, Nat.mod_eq_of_lt h]
    exact ⟨rfl, rfl⟩
/-- a bit that is laid into a digit -/
theorem or_bit {qs : List Nat} {k V : Nat} (hq : D.Ok qs) (hv : D.val qs = V * 2 ^ (k + 1)) (hk : k / 16 < qs.length) :
    lm qs (k / 16) ||| 2 ^ (k % 16) < 65536 ∧ D.val (qs.set (k / 16) (lm qs (k / 16) ||| 2 ^ (k % 16))) = (2 * V + 1) * 2 ^ k := by
  have hs : k % 16 < 16 := Nat.mod_lt _ (by decide)
  have hd := ddigit qs (k / 16) hq
  have ek : k = 16 * (k / 16) + k % 16 := (Nat.div_add_mod k 16).symm
  have eB : (65536 : Nat) ^ (k / 16) = 2 ^ (16 * (k / 16)) := by rw [show (65536 : Nat) = 2 ^ 16 from rfl, ← Nat.pow_mul]
  have hlm : lm qs (k / 16) = V * 2 ^ (k % 16 + 1) % 65536 := by
    rw [← hd, hv, eB]
    congr 1
    rw [show k + 1 = 16 * (k / 16) + (k % 16 + 1) by omega, Nat.pow_add, Nat.mul_left_comm, Nat.mul_div_cancel_left _ (Nat.two_pow_pos _)]
  obtain ⟨u, hu⟩ : ∃ u, lm qs (k / 16) = 2 ^ (k % 16 + 1) * u := by
    refine ⟨V % 2 ^ (15 - k % 16), ?_⟩
    rw [hlm, Nat.mul_comm V, show (65536 : Nat) = 2 ^ (k % 16 + 1) * 2 ^ (15 - k % 16) by rw [← Nat.pow_add, show k % 16 + 1 + (15 - k % 16) = 16 by omega], Nat.mul_mod_mul_left]
  have hor : lm qs (k / 16) ||| 2 ^ (k % 16) = lm qs (k / 16) + 2 ^ (k % 16) := by
    rw [hu]
    exact (Nat.two_pow_add_eq_or_of_lt (Nat.pow_lt_pow_right (by decide) (Nat.lt_succ_self _)) u).symm
  constructor
  · have h1 := dlm_lt hq (k / 16)
    have h2 : 2 ^ (k % 16) < 2 ^ 16 := Nat.pow_lt_pow_right (by decide) hs
    exact Nat.or_lt_two_pow (n := 16) h1 h2
  · have e := dset_val qs (k / 16) (lm qs (k / 16) ||| 2 ^ (k % 16)) hk
    rw [hor, Nat.mul_add] at e
    have e2 : 65536 ^ (k / 16) * 2 ^ (k % 16) = 2 ^ k := by rw [eB, ← Nat.pow_add, Nat.div_add_mod]
    rw [e2, hv] at e
    rw [hor, Nat.add_mul, Nat.one_mul]
    rw [Nat.pow_succ, Nat.mul_comm (2 ^ k) 2, ← Nat.mul_assoc, Nat.mul_comm V 2] at e
    omega
theorem RowC.kept {w w' : World} {base g n cap : Nat} {row : Option Nat} {xs : List Nat} (h : RowC w base g n cap xs) (hg : w.grownBy w' row) (hne : row ≠ some g) : RowC w' base g n cap xs :=
  World.ownsRow.kept h hg (.inr (fun e => hne (by rw [← e]; rfl)))
theorem RowC.elder {w w' : World} {base g n cap : Nat} {xs : List Nat} (h : RowC w base g n cap xs) (hb : Below w.heap.size w w') : RowC w' base g n cap xs := by
  refine ⟨h.1, ?_⟩
  rcases h.2 with ⟨e, _⟩ | ⟨g', cap', cur, e, hg, hh, r⟩
  · simp at e
  · refine .inr ⟨g', cap', cur, e, hg, ?_, r⟩
    rw [hb.block g' (Array.getElem?_eq_some_iff.1 hh).1]; exact hh
theorem RowC.other {w : World} {base g n cap g' o : Nat} {xs : List Nat} {v : Value} (h : RowC w base g n cap xs) (hne : g' ≠ g) : RowC (w.setCell ⟨g', o, none⟩ v) base g n cap xs :=
  RowC.kept (row := some g') h ⟨rfl, rfl, rfl, by simp, fun k _ hk => by
    show (w.heap.modify g' _)[k]? = _
    rw [Array.getElem?_modify]
    have : g' ≠ k := fun e => hk (by rw [e])
    simp [this]⟩ (by simp [hne])
end Go.Proofs.YtmibgcpafccliaaDoor

namespace Go.Proofs.YtmibgcpafccliaaDoor
open Go.RowKit

theorem dcmp_ge {m n : Nat} (h : n ≤ m) : 0 ≤ cmpI m n := by unfold cmpI; rw [if_neg (by omega)]; split <;> omega
theorem dcmp_lt {m n : Nat} (h : ¬ n ≤ m) : cmpI m n < 0 := by unfold cmpI; rw [if_pos (by omega)]; omega
theorem dlen_mono {n m : Nat} (h : n ≤ m) : (D.lim n).length ≤ (D.lim m).length :=
  D.lim_length_le (Nat.lt_of_le_of_lt h (by have := D.val_lt (D.ok_lim m); rw [D.val_lim] at this; exact this))
theorem dlen_mono' {n m M : Nat} (h : n < m) (hM : M = (D.lim m).length) : (D.lim n).length ≤ M := by rw [hM]; exact dlen_mono (Nat.le_of_lt h)
theorem Own.lower3 {w : World} {base base' : Nat} {v : Value} {xs : List Nat} (h : Own w base v xs) (hb : base' ≤ base) : Own w base' v xs := by
  refine ⟨h.1, ?_⟩
  rcases h.2 with k | ⟨g, cap, cur, e, hg, r⟩
  · exact .inl k
  · exact .inr ⟨g, cap, cur, e, Nat.le_trans hb hg, r⟩
theorem Own.lt2 {w : World} {base : Nat} {v : Value} {xs : List Nat} (h : Own w base v xs) : ∀ k, v.ownBlock = some k → base ≤ k ∧ k < w.heap.size := World.ownsRow.lt h
theorem Own.rowc {w : World} {base l rc : Nat} {ra : Option Addr} {xs : List Nat} (h : Own w base (.slice ra l rc) xs) (hp : 0 < xs.length) : ∃ g, ra = some ⟨g, 0, none⟩ ∧ base ≤ g ∧ RowC w base g xs.length rc xs := by
  rcases h.2 with ⟨e, h0⟩ | ⟨g, cap, cur, e, hb, r⟩
  · omega
  · simp only [Value.slice.injEq] at e
    obtain ⟨rfl, rfl, rfl⟩ := e
    exact ⟨g, rfl, hb, h⟩
theorem Own.other {w : World} {base g o : Nat} {v u : Value} {xs : List Nat} (h : Own w base v xs) (hg : g < base) : Own (w.setCell ⟨g, o, none⟩ u) base v xs :=
  World.ownsRow.kept (row := some g) h ⟨rfl, rfl, rfl, by simp, fun k _ hk => by
    show (w.heap.modify g _)[k]? = _
    rw [Array.getElem?_modify]
    have : g ≠ k := fun e => hk (by rw [e])
    simp [this]⟩ (.inr (fun e => by have := (Own.lt2 h g e).1; omega))
theorem twice_pow (Q k : Nat) : Q * 2 ^ (k + 1) = 2 * Q * 2 ^ k := by rw [Nat.pow_succ, Nat.mul_comm (2 ^ k), ← Nat.mul_assoc, Nat.mul_comm Q]
theorem pow_emod (s : Nat) (h : s < 16) : ((2 ^ s : Nat) : Int) = (2 : Int) ^ s % 4294967296 := by
  have h1 : 2 ^ s < 2 ^ 16 := Nat.pow_lt_pow_right (by decide) h
  have h2 : ((2 ^ s : Nat) : Int) = (2 : Int) ^ s := by rw [Int.natCast_pow]; rfl
  rw [← h2]
  generalize 2 ^ s = p at h1
  omega
theorem RowC.lt2 {w : World} {base g n cap : Nat} {xs : List Nat} (h : RowC w base g n cap xs) : g < w.heap.size := (World.ownsRow.lt h g rfl).2

set_option maxRecDepth 100000 in
set_option maxHeartbeats 8000000 in
theorem rdiv2_any (v1 v2 : Value) (m n : Nat) (w : World) (h1 : Nums w v1 (D.lim m)) (h2 : Nums w v2 (D.lim n)) (hn : 0 < n) (hn1 : (D.lim n).length ≠ 1) (l1 : (D.lim m).length ≤ 10000000) (l2 : (D.lim n).length ≤ 10000000) :
    Calls Tryd.prog 79 #[v1, v2] w fun e w' => ∃ q r, e = .returned (.tuple #[q, r]) ∧ Nums w' q (D.lim (m / n)) ∧ Nums w' r (D.lim (m % n)) ∧ Below w.heap.size w w' := by
  obtain ⟨i0, hi, hz0, hz1, hz2⟩ := info_parts Tryd.info32
  have HN1 := hide h1
  have HN2 := hide h2
  have HNP := hide hn
  obtain ⟨_, a1, c1, rfl, hl1, hm1, _⟩ := h1
  obtain ⟨_, a2, c2, rfl, hl2, hm2, _⟩ := h2
  unfold maxLen at hm1 hm2
  have hne1 : ((((D.lim n).length : Nat) : Int) == 1) = false := by rw [beq_eq_false_iff_ne]; omega
  obtain ⟨L, hL⟩ : ∃ L, L = (D.lim m).length := ⟨_, rfl⟩
  obtain ⟨M, hM⟩ : ∃ M, M = (D.lim n).length := ⟨_, rfl⟩
  rw [← hL] at hl1 l1 HN1 ⊢
  rw [← hM] at hl2 l2 hne1 HN2 ⊢
  have HLE := hide hL
  have HME := hide hM
  clear hL hM hn hn1
  go_enter Tryd.func79, Tryd.ntmps79
  go_wp2_with (at_make; refine wpList_make_full _ rfl _ _ 22 rfl w.heap.size 32 i0 (.int .u32 0) 1 Tryd.underlying22 hi hz0 hz1 _ _ _ _ L rfl rfl ?_ ?_ ?_ ?_ (Nat.le_refl _) ?_)
  all_goals try (first | rfl | omega)
  all_goals try (rw [hz2]; omega)
  all_goals try (unfold maxLen; omega)
  intro w2 hown hgrow
  have HB2 : Hid (Below w.heap.size w w2) := hide ((Below.refl _ _).grown hgrow (Nat.le_refl _) (fun k hk => by simp at hk))
  have HR2 : Hid (RowC w2 w.heap.size w.heap.size L L (List.replicate L 0)) := hide (by rw [made_fil] at hown; unfold RowC; simpa [fil] using hown)
  clear hown hgrow hne1
  go_wp2_with fail
  refine (rbits2_any _ m _ (HN1.out.below HB2.out) (by have := HLE.out; omega)).mono ?_
  rintro e w3 ⟨N, rfl, hlen, hNb, rfl⟩
  rw [← HLE.out] at hNb
  have HLEN := hide hlen
  clear hlen
  go_wp2
  go_loopw [10, 11, 12, 13] (fun rv kv cv iv wr => ∃ (k : Nat) (qs : List Nat), k ≤ N ∧ kv = .int .i64 ((k : Int) - 1) ∧ qs.length = L ∧ D.Ok qs ∧ D.val qs = m / 2 ^ k / n * 2 ^ k ∧ RowC wr w.heap.size w.heap.size L L qs ∧ Own wr (w.heap.size + 1) rv (D.lim (m / 2 ^ k % n)) ∧ Below w.heap.size w wr) (fun _ kv _ _ _ => (intOf kv + 1).toNat)
  case atStart =>
    have e0 : m / 2 ^ N = 0 := Nat.div_eq_of_lt HLEN.out.1
    exact ⟨N, List.replicate L 0, Nat.le_refl _, rfl, List.length_replicate, fun x hx => by rw [List.eq_of_mem_replicate hx]; decide, by rw [e0, Nat.zero_div, Nat.zero_mul]; exact D.val_replicate _, HR2.out, by rw [e0, Nat.zero_mod, D.lim_zero]; exact World.ownsRow_nil _ _ _ _, HB2.out⟩
  case round =>
    clear HR2 HB2
    obtain ⟨k, qs, hkN, rfl, hql, hqo, hqv, hrow, hown, hbel⟩ := hrel
    have HQ := hide (And.intro hql (And.intro hqo hqv))
    have HRW := hide hrow
    have HOW := hide hown
    have HBE := hide hbel
    clear hql hqo hqv hrow hown hbel
    cases k with
    | zero =>
      have hfld := Tryd.fieldD
      go_wp2_with fail
      refine (rnorm2_any false _ qs _ (HRW.out.nums HQ.out.1 (dok HQ.out.2.1)) HQ.out.2.1).mono ?_
      rintro e w4 ⟨v4, rfl, hR4, hb4⟩
      rw [HQ.out.2.2, show m / 2 ^ 0 / n * 2 ^ 0 = m / n by simp] at hR4
      obtain ⟨l4, rfl, n4⟩ := hR4.digits
      have HN4 := hide n4
      have HR4 : Hid (Nums w4 u10 (D.lim (m % n))) := hide (by have := (HOW.out.nums (dok (D.ok_lim _))).below hb4; rwa [show m / 2 ^ 0 % n = m % n by simp] at this)
      replace HBE := hide (HBE.out.trans (hb4.mono HBE.out.size))
      clear hb4 hR4 n4
      go_wp2
      go_ret2
      exact ⟨_, _, rfl, HN4.out, HR4.out, HBE.out⟩
    | succ k =>
      rw [show (((k + 1 : Nat) : Int) - 1) = (k : Int) from by omega]
      have hkL : k / 16 < L := by omega
      have HYN := hide (bit_yes (m := m) (k := k) HNP.out rfl)
      obtain ⟨c0, hc0⟩ : ∃ c0, c0 = m / 2 ^ k % 2 := ⟨_, rfl⟩
      have hc01 : c0 ≤ 1 := by omega
      obtain ⟨R, hR⟩ : ∃ R, R = m / 2 ^ (k + 1) % n := ⟨_, rfl⟩
      rw [← hc0, ← hR] at HYN
      rw [← hR] at HOW
      have HRn : Hid (R < n) := hide (by rw [hR]; exact Nat.mod_lt _ HNP.out)
      have HC0 := hide hc0
      clear hc0 hR
      obtain ⟨R1, hR1⟩ : ∃ R1, R1 = 2 * R + c0 := ⟨_, rfl⟩
      rw [← hR1] at HYN
      have HR1 := hide hR1
      have HRL : Hid ((D.lim R1).length ≤ M + 1) := hide (by
        refine D.lim_length_le ?_
        have h1 : n < D.BB ^ M := by have := D.val_lt (D.ok_lim n); rw [D.val_lim, ← HME.out] at this; exact this
        rw [Nat.pow_succ]
        have h2 : D.BB ^ M * 2 ≤ D.BB ^ M * D.BB := Nat.mul_le_mul_left _ (by decide)
        have := HRn.out
        omega)
      clear hR1
      obtain ⟨_, ra, rc, hrv, hrc, hrm, _⟩ := HOW.out.nums (dok (D.ok_lim _))
      subst hrv
      unfold maxLen at hrm
      have HRL0 : Hid ((D.lim R).length ≤ M) := hide (dlen_mono' HRn.out HME.out)
      have hRb : (D.lim R).length ≤ 10000000 := by have := HRL0.out; omega
      go_wp2_with fail
      refine (rbit2_any _ m k _ (HN1.out.below HBE.out) (by rw [← HLE.out]; exact hkL) (by rw [← HLE.out]; omega)).mono ?_
      rintro e w5 ⟨rfl, hw5⟩
      rw [← HC0.out]
      subst hw5
      obtain ⟨RL, hRL⟩ : ∃ RL, RL = D.lim R := ⟨_, rfl⟩
      have HRLE := hide hRL
      rw [← hRL] at HOW hrc hRb ⊢
      clear hRL
      have HROK : Hid (D.Ok RL) := hide (by rw [HRLE.out]; exact D.ok_lim _)
      go_wp2
      go_loopw [12, 13] (fun cv iv wx => ∃ (i c : Nat) (A : List Nat), i ≤ RL.length ∧ iv = .int .i64 i ∧ cv = .int .u32 c ∧ c ≤ 1 ∧ DDbl RL c0 i c A ∧ Own wx (w.heap.size + 1) (.slice ra RL.length rc) (A ++ RL.drop i) ∧ RowC wx w.heap.size w.heap.size L L qs ∧ Below w.heap.size w wx) (fun _ iv _ => RL.length - (intOf iv).toNat)
      case atStart => exact ⟨0, c0, [], Nat.zero_le _, rfl, rfl, hc01, DDbl.zero _ _ hc01, by simpa using HOW.out, HRW.out, HBE.out⟩
      case round =>
        clear HOW HRW HBE
        obtain ⟨i, c, A, hiR, rfl, rfl, hc1, hat, hown, hrow, hbel⟩ := hrel
        have HAT := hide hat
        have HOW := hide hown
        have HRW := hide hrow
        have HBE := hide hbel
        have HAL := hide hat.len
        clear hat hown hrow hbel
        by_cases hlt : i < RL.length
        · obtain ⟨g, rfl, hbg, hrr⟩ := Own.rowc HOW.out (by rw [List.length_append, List.length_drop, HAL.out]; omega)
          have hall : (A ++ RL.drop i).length = RL.length := by rw [List.length_append, List.length_drop, HAL.out]; omega
          rw [hall] at hrr
          have hcl := hrr.cell hall i hlt
          rw [dbl_at A RL i HAL.out] at hcl
          have hfr := hrr.free i
          have hdx := dlm_lt HROK.out i
          have HRR := hide hrr
          have HBG := hide hbg
          clear hrr hbg hall
          have hcI : (c : Int) ≤ 1 := by omega
          go_wp2
          go_roundw
          case rel =>
            have hs := HRR.out.set i ((c + 2 * lm RL i) % 65536)
            rw [dbl_set A RL i _ HAL.out hlt] at hs
            have e1 : (((c + 2 * lm RL i) % 65536 : Nat) : Int) = ((c : Int) + 2 * (lm RL i : Int)) % 65536 := by omega
            have e2 : (((c + 2 * lm RL i) / 65536 : Nat) : Int) = ((c : Int) + 2 * (lm RL i : Int)) / 65536 := by omega
            rw [e1] at hs
            have st := HAT.out.step HROK.out
            refine ⟨i + 1, (c + 2 * lm RL i) / 65536, _, by omega, by go_num, by rw [e2], st.c1, st, ?_, HRW.out.other (by have := HBG.out; omega), HBE.out.setCell (p := ⟨g, i, none⟩) (by have := HBG.out; show _ ≤ g; omega) _⟩
            unfold Own
            rw [show (A ++ [(c + 2 * lm RL i) % 65536] ++ RL.drop (i + 1)).length = RL.length by simp [HAL.out]; omega]
            exact hs
          case measure => simp [intOf]; omega
        · have e : i = RL.length := by omega
          subst e
          have HEND := hide (DDbl.end (by have := HAT.out; rw [HRLE.out] at this; exact this))
          rw [← HR1.out] at HEND
          have HOA : Hid (Own wr (w.heap.size + 1) (.slice ra RL.length rc) A) := hide (by have := HOW.out; rw [List.drop_length, List.append_nil] at this; exact this)
          have HRW7 : Hid (w.heap.size < wr.heap.size) := hide HRW.out.lt2
          clear HAT HOW
          by_cases hc0' : c = 0
          · subst hc0'
            have HO1 : Hid (Own wr (w.heap.size + 1) (.slice ra RL.length rc) (D.lim R1)) := hide (by rw [← HEND.out.1 rfl]; exact HOA.out)
            clear HOA HEND
            go_wp2_with fail
            refine (rsize_any _ _ R1 n _ (HO1.out.nums (dok (D.ok_lim _))) (HN2.out.below HBE.out)).mono ?_
            rintro e w7 ⟨rfl, hb7⟩
            replace HO1 := hide (HO1.out.below hb7)
            replace HRW := hide (HRW.out.elder hb7)
            replace HBE := hide (HBE.out.trans (hb7.mono HBE.out.size))
            clear hb7 HRW7
            have HRW7 := hide HRW.out.lt2
            by_cases hge : n ≤ R1
            · have hcm : 0 ≤ cmpI R1 n := dcmp_ge hge
              generalize cmpI R1 n = cz at *
              have HGE := hide hge
              clear hge
              go_wp2_with fail
              refine (rminus_own _ _ (D.lim R1) (D.lim n) _ (HO1.out.nums (dok (D.ok_lim _))) (HN2.out.below HBE.out) (D.ok_lim _) (D.ok_lim _) (by have := HRL.out; omega) (dlen_mono HGE.out) (by rw [D.val_lim, D.val_lim]; exact HGE.out)).mono ?_
              rintro e w8 ⟨v8, acc, rfl, hO8, hk8, hv8, hb8⟩
              rw [D.val_lim, D.val_lim] at hv8
              replace HRW := hide (HRW.out.elder hb8)
              have HO8 := hide hO8
              skip
              replace HBE := hide (HBE.out.trans (hb8.mono HBE.out.size))
              have HV8 := hide hv8
              have HK8 := hide hk8
              clear hO8 hb8 hv8 hk8 HO1
              have hfld := Tryd.fieldD
              go_wp2_with fail
              refine (rnorm2_cut false v8 acc _ (HO8.out.nums (dok HK8.out)) HK8.out).mono ?_
              rintro e w9 ⟨b9, l9, k9, rfl, hcut, hk9, ht9, hR9, hb9⟩
              have HO9 : Hid (Own w9 (w.heap.size + 1) l9 (D.lim (R1 - n))) := hide (by have h := HO8.out.norm hcut hk9 ht9 hb9; rw [HV8.out] at h; exact Own.lower3 h (by have := HRW7.out; omega))
              replace HRW := hide (HRW.out.elder hb9)
              replace HBE := hide (HBE.out.trans (hb9.mono HBE.out.size))
              clear hcut hk9 ht9 hR9 hb9 HO8 HV8 HK8
              have hcl := HRW.out.cell HQ.out.1 (k / 16) (by omega)
              have hfr := HRW.out.free (k / 16)
              have hdq := dlm_lt HQ.out.2.1 (k / 16)
              have HOR := hide (or_bit HQ.out.2.1 HQ.out.2.2 (by rw [HQ.out.1]; omega))
              have HORI := hide (u32_or_nat (lm qs (k / 16)) (2 ^ (k % 16)) (by omega) (Nat.lt_of_lt_of_le (Nat.pow_lt_pow_right (by decide) (Nat.mod_lt _ (by decide))) (show 2 ^ 16 ≤ 4294967296 by decide)))
              rw [pow_emod (k % 16) (Nat.mod_lt _ (by decide))] at HORI
              have hk16 : (k : Int) / 16 < (L : Int) := by omega
              go_wp2
              go_region
              all_goals
                go_wp2
                go_roundw
                case rel =>
                  have hy := (HYN.out.1 HGE.out)
                  refine ⟨k, qs.set (k / 16) (lm qs (k / 16) ||| 2 ^ (k % 16)), by omega, by go_num, by rw [List.length_set]; exact HQ.out.1, HQ.out.2.1.set _ _ HOR.out.1, by rw [HOR.out.2, hy.1], ?_, by rw [hy.2]; exact Own.other HO9.out (Nat.lt_succ_self _), ?_⟩
                  · have h1 := HRW.out.set (k / 16) (lm qs (k / 16) ||| 2 ^ (k % 16))
                    rw [← HORI.out] at h1
                    exact h1
                  · exact (HBE.out.setCell (p := ⟨w.heap.size, k / 16, none⟩) (Nat.le_refl _) _).drew
                case measure => simp [intOf]
            · have hcm : cmpI R1 n < 0 := dcmp_lt hge
              have HLT := hide (Nat.lt_of_not_le hge)
              generalize cmpI R1 n = cz at *
              clear hge
              go_wp2
              go_roundw
              case rel =>
                have hy := (HYN.out.2 HLT.out)
                exact ⟨k, qs, by omega, by go_num, HQ.out.1, HQ.out.2.1, by rw [HQ.out.2.2, hy.1, twice_pow], HRW.out, by rw [hy.2]; exact HO1.out, HBE.out⟩
              case measure => simp [intOf]
          · have hc1' : c = 1 := by omega
            subst hc1'
            have hAl : A.length = RL.length := HAL.out
            have hbs : w.heap.size + 1 ≤ wr.heap.size := HRW7.out
            go_wp2_with (at_builtin; refine wpList_append_own _ rfl _ _ 22 rfl (w.heap.size + 1) 32 i0 (.int .u32 0) 1 4 Tryd.underlying22 hi hz0 hz1 hz2 rfl (by decide) _ _ _ rfl (World.ownsRow.alloc HOA.out _) ⟨_, 0, none⟩ 1 1 [.int .u32 (1)] rfl rfl ?_ ?_ ?_ ?_ ?_ ?_)
            · intro i u hi'
              match i, hi' with
              | 0, hi' => simp at hi'; subst hi'; simp [Addr.add]
            · intro u hu; simp at hu; subst hu; rfl
            · unfold maxLen; omega
            · omega
            · simp; omega
            · intro v6 w6 hown6 hgrow6 _
              have hneT : (Value.slice ra RL.length rc).ownBlock ≠ some w.heap.size := fun h => by have := HOA.out.lt _ h; omega
              have HRW6 := hide (RowC.kept (show RowC (wr.alloc _) _ _ _ _ _ from World.ownsRow.alloc HRW.out _) hgrow6 hneT)
              obtain ⟨hO6, hB6⟩ := own_step (n := 1) rfl HOA.out (by rw [hAl]; simpa using hown6) hgrow6 HBE.out (by omega) (Nat.le_succ _)
              have HO1 : Hid (Own w6 (w.heap.size + 1) v6 (D.lim R1)) := hide (by rw [← HEND.out.2 (by decide)]; exact hO6)
              have HS6 : Hid (w.heap.size < w6.heap.size) := hide HRW6.out.lt2
              clear HRW HRW7
              have HRW := hide HRW6.out
              have HRW7 := hide HS6.out
              replace HBE := hide hB6
              clear hown6 hgrow6 hO6 hB6 HOA HEND HRW6 HS6 hneT hbs hAl
              obtain ⟨_, r6, q6, hv6, _, hm6, _⟩ := HO1.out.nums (dok (D.ok_lim _))
              subst hv6
              clear hm6
              go_wp2_with fail
              refine (rsize_any _ _ R1 n _ (HO1.out.nums (dok (D.ok_lim _))) (HN2.out.below HBE.out)).mono ?_
              rintro e w7 ⟨rfl, hb7⟩
              replace HO1 := hide (HO1.out.below hb7)
              replace HRW := hide (HRW.out.elder hb7)
              replace HBE := hide (HBE.out.trans (hb7.mono HBE.out.size))
              clear hb7 HRW7
              have HRW7 := hide HRW.out.lt2
              by_cases hge : n ≤ R1
              · have hcm : 0 ≤ cmpI R1 n := dcmp_ge hge
                generalize cmpI R1 n = cz at *
                have HGE := hide hge
                clear hge
                go_wp2_with fail
                refine (rminus_own _ _ (D.lim R1) (D.lim n) _ (HO1.out.nums (dok (D.ok_lim _))) (HN2.out.below HBE.out) (D.ok_lim _) (D.ok_lim _) (by have := HRL.out; omega) (dlen_mono HGE.out) (by rw [D.val_lim, D.val_lim]; exact HGE.out)).mono ?_
                rintro e w8 ⟨v8, acc, rfl, hO8, hk8, hv8, hb8⟩
                rw [D.val_lim, D.val_lim] at hv8
                replace HRW := hide (HRW.out.elder hb8)
                have HO8 := hide hO8
                skip
                replace HBE := hide (HBE.out.trans (hb8.mono HBE.out.size))
                have HV8 := hide hv8
                have HK8 := hide hk8
                clear hO8 hb8 hv8 hk8 HO1
                have hfld := Tryd.fieldD
                go_wp2_with fail
                refine (rnorm2_cut false v8 acc _ (HO8.out.nums (dok HK8.out)) HK8.out).mono ?_
                rintro e w9 ⟨b9, l9, k9, rfl, hcut, hk9, ht9, hR9, hb9⟩
                have HO9 : Hid (Own w9 (w.heap.size + 1) l9 (D.lim (R1 - n))) := hide (by have h := HO8.out.norm hcut hk9 ht9 hb9; rw [HV8.out] at h; exact Own.lower3 h (by have := HRW7.out; omega))
                replace HRW := hide (HRW.out.elder hb9)
                replace HBE := hide (HBE.out.trans (hb9.mono HBE.out.size))
                clear hcut hk9 ht9 hR9 hb9 HO8 HV8 HK8
                have hcl := HRW.out.cell HQ.out.1 (k / 16) (by omega)
                have hfr := HRW.out.free (k / 16)
                have hdq := dlm_lt HQ.out.2.1 (k / 16)
                have HOR := hide (or_bit HQ.out.2.1 HQ.out.2.2 (by rw [HQ.out.1]; omega))
                have HORI := hide (u32_or_nat (lm qs (k / 16)) (2 ^ (k % 16)) (by omega) (Nat.lt_of_lt_of_le (Nat.pow_lt_pow_right (by decide) (Nat.mod_lt _ (by decide))) (show 2 ^ 16 ≤ 4294967296 by decide)))
                rw [pow_emod (k % 16) (Nat.mod_lt _ (by decide))] at HORI
                have hk16 : (k : Int) / 16 < (L : Int) := by omega
                go_wp2
                go_region
                all_goals
                  go_wp2
                  go_roundw
                  case rel =>
                    have hy := (HYN.out.1 HGE.out)
                    refine ⟨k, qs.set (k / 16) (lm qs (k / 16) ||| 2 ^ (k % 16)), by omega, by go_num, by rw [List.length_set]; exact HQ.out.1, HQ.out.2.1.set _ _ HOR.out.1, by rw [HOR.out.2, hy.1], ?_, by rw [hy.2]; exact Own.other HO9.out (Nat.lt_succ_self _), ?_⟩
                    · have h1 := HRW.out.set (k / 16) (lm qs (k / 16) ||| 2 ^ (k % 16))
                      rw [← HORI.out] at h1
                      exact h1
                    · exact (HBE.out.setCell (p := ⟨w.heap.size, k / 16, none⟩) (Nat.le_refl _) _).drew
                  case measure => simp [intOf]
              · have hcm : cmpI R1 n < 0 := dcmp_lt hge
                have HLT := hide (Nat.lt_of_not_le hge)
                generalize cmpI R1 n = cz at *
                clear hge
                go_wp2
                go_roundw
                case rel =>
                  have hy := (HYN.out.2 HLT.out)
                  exact ⟨k, qs, by omega, by go_num, HQ.out.1, HQ.out.2.1, by rw [HQ.out.2.2, hy.1, twice_pow], HRW.out, by rw [hy.2]; exact HO1.out, HBE.out⟩
                case measure => simp [intOf]

theorem dlim_one {n : Nat} (h : (D.lim n).length = 1) : D.lim n = [n] ∧ n < 65536 ∧ 0 < n := by
  obtain ⟨x, hx⟩ := List.length_eq_one_iff.1 h
  have hv := D.val_lim n
  rw [hx] at hv
  have hv' : x = n := by simpa [D.val] using hv
  subst hv'
  have hk := D.ok_lim x
  rw [hx] at hk
  have hl := dlim_last (n := x) (by omega)
  rw [h, hx] at hl
  exact ⟨hx, hk x (by simp), Nat.pos_of_ne_zero (by simpa [lm] using hl)⟩
theorem rdivide_any (v1 v2 : Value) (m n : Nat) (w : World) (h1 : Nums w v1 (D.lim m)) (h2 : Nums w v2 (D.lim n)) (hn : 0 < n) (l1 : (D.lim m).length ≤ 10000000) (l2 : (D.lim n).length ≤ 10000000) :
    Calls Tryd.prog 79 #[v1, v2] w fun e w' => ∃ q r, e = .returned (.tuple #[q, r]) ∧ Nums w' q (D.lim (m / n)) ∧ Nums w' r (D.lim (m % n)) ∧ Below w.heap.size w w' := by
  by_cases h : (D.lim n).length = 1
  · obtain ⟨e, hlt, hp⟩ := dlim_one h
    rw [e] at h2
    exact (rdiv1_any v1 v2 m n w h1 h2 hp hlt (by omega)).mono fun _ _ ⟨q, r, he, hq, hr, hb⟩ => ⟨q, r, he, hq.nums (dok (D.ok_lim _)), hr, hb⟩
  · exact rdiv2_any v1 v2 m n w h1 h2 hn h l1 l2
end Go.Proofs.YtmibgcpafccliaaDoor
