/- swageref04.Text: a row's text. -/
import Derived.Test.YtdafdfgkfkanjaaDoorR2Law
import Derived.Test.YtdafdfgkfkanjaaDoorDivMod
import Derived.Test.YtdafdfgkfkanjaaDoorTx
import Derived.RegionTactic
import Derived.BigRegion
import Derived.Laws.BytesArg
import Derived.Test.YtdafdfgkfkanjaaDoorWText
import Derived.Test.YtdafdfgkfkanjaaDoorWList
import Derived.Test.YtdafdfgkfkanjaaDoorSpl
namespace Go.Proofs.YtdafdfgkfkanjaaDoor
open Go.RowKit

set_option maxRecDepth 100000 in
set_option maxHeartbeats 1000000 in
theorem rnorm2_cut (s : Bool) (v : Value) (xs : List Nat) (w : World) (h : Nums w v xs) (hd : D.Ok xs) :
    Calls Tryd.prog 33 #[.bool s, v] w fun e w' => ∃ b l k, e = .returned (.agg #[.bool b, l]) ∧ Cut v l k ∧ k ≤ xs.length ∧ xs.take k = D.lim (D.val xs) ∧ RInt w' (.agg #[.bool b, l]) (sg s (D.val xs)) ∧ Below w.heap.size w w' := by
  have hN : Hid (Nums w v xs) := h
  have HD := hide hd
  rcases h.cases with ⟨rfl, a, cap, rfl, hcap⟩ | ⟨hpos, b, off, cap, rfl, hl, hm, hb, hc⟩
  · clear h hd
    unfold maxLen at hcap
    go_enter Tryd.func33, Tryd.ntmps33
    go_wp2
    refine wp_loop_rounds 1 ?_
    rw [rounds_succ]
    cases s <;> cases a
    all_goals
      go_wp2
      refine ret_ref rfl w.heap.size _ _ _ _ rfl (heap_alloc_new _ _) rfl ?_
      exact ⟨_, _, 0, rfl, ⟨_, _, _, rfl, rfl⟩, (Nat.zero_le _), D.take_lim (k := 0) HD.out (Nat.zero_le _) rfl (.inl rfl), dtrim_end (k := 0) hN.out HD.out (Nat.zero_le _) rfl (.inl rfl) (below_alloc w _) _ (by simp), below_alloc _ _⟩
  · clear h hd
    have hc' : ∀ i, i < xs.length → (w.alloc (.cells #[.bool false, .slice none 0 0] 54)).cell? ⟨b, off + i, none⟩ = some (.int .u32 (lm xs i : Nat)) := fun i hi => by
      rw [(below_alloc w _).cell (World.block_lt_of_cell? w _ (hc i hi))]; exact hc i hi
    clear hc
    unfold maxLen at hm
    go_enter Tryd.func33, Tryd.ntmps33
    go_wp2
    go_loopw [5] (fun n wr => ∃ k : Nat, k ≤ xs.length ∧ n = .int .i64 k ∧ D.val (xs.take k) = D.val xs ∧ wr = w.alloc (.cells #[.bool false, .slice none 0 0] 54)) (fun n _ => (intOf n).toNat)
    case atStart => exact ⟨xs.length, Nat.le_refl _, rfl, by rw [List.take_length], rfl⟩
    case round =>
      obtain ⟨k, hk, rfl, hv, rfl⟩ := hrel
      have HV : Hid (D.val (xs.take k) = D.val xs) := hv
      clear hv
      cases k with
      | zero =>
        cases s with
        | true =>
          go_wp2
          refine ret_ref rfl w.heap.size _ _ _ _ rfl (heap_alloc_new _ _) rfl ?_
          exact ⟨_, _, 0, rfl, ⟨_, _, _, rfl, rfl⟩, (Nat.zero_le _), D.take_lim HD.out (Nat.zero_le _) HV.out (.inl rfl), dtrim_end hN.out HD.out (Nat.zero_le _) HV.out (.inl rfl) (below_alloc _ _) _ (by simp), below_alloc _ _⟩
        | false =>
          go_wp2
          refine ret_ref rfl w.heap.size _ _ _ _ rfl (heap_alloc_new _ _) rfl ?_
          exact ⟨_, _, 0, rfl, ⟨_, _, _, rfl, rfl⟩, (Nat.zero_le _), D.take_lim HD.out (Nat.zero_le _) HV.out (.inl rfl), dtrim_end hN.out HD.out (Nat.zero_le _) HV.out (.inl rfl) (below_alloc _ _) _ (by simp), below_alloc _ _⟩
      | succ k =>
        have hck := hc' k (by omega)
        by_cases hz : lm xs k = 0
        · have hz' : (((lm xs k : Nat) : Int) == 0) = true := by simpa using hz
          have HZ : Hid (lm xs k = 0) := hz
          clear hz
          go_wp2
          go_roundw
          case rel => exact ⟨k, by omega, by go_num, dtrim_step hk HV.out HZ.out, trivial⟩
          case measure => simp [intOf]
        · have hz' : (((lm xs k : Nat) : Int) == 0) = false := by simpa using hz
          cases s with
          | true =>
            go_wp2
            refine ret_ref rfl w.heap.size _ _ _ _ rfl (heap_alloc_new _ _) rfl ?_
            exact ⟨_, _, _, rfl, ⟨_, _, _, rfl, rfl⟩, hk, D.take_lim HD.out hk HV.out (.inr hz), dtrim_end hN.out HD.out hk HV.out (.inr hz) (below_alloc _ _) _ (by simp), below_alloc _ _⟩
          | false =>
            go_wp2
            refine ret_ref rfl w.heap.size _ _ _ _ rfl (heap_alloc_new _ _) rfl ?_
            exact ⟨_, _, _, rfl, ⟨_, _, _, rfl, rfl⟩, hk, D.take_lim HD.out hk HV.out (.inr hz), dtrim_end hN.out HD.out hk HV.out (.inr hz) (below_alloc _ _) _ (by simp), below_alloc _ _⟩

/-- what is owned stays so under norm -/
theorem Own.norm {w w' : World} {base k : Nat} {v l : Value} {xs : List Nat} (h : Own w base v xs) (hc : Cut v l k) (hk : k ≤ xs.length) (ht : xs.take k = D.lim (D.val xs)) (hb : Below w.heap.size w w') : Own w' base l (D.lim (D.val xs)) := by
  rw [← ht]; exact (h.cut k hk hc).below hb
end Go.Proofs.YtdafdfgkfkanjaaDoor

namespace Go.Proofs.YtdafdfgkfkanjaaDoor
open Go.RowKit

/-- a division's state with k digits to go -/
structure DDiv (xs : List Nat) (d k r : Nat) (qs : List Nat) : Prop where
  len : qs.length = xs.length - k
  ok : D.Ok qs
  r1 : r < d
  sum : D.val (xs.drop k) = d * D.val qs + r
theorem ddrop_val (xs : List Nat) (k : Nat) (h : k < xs.length) : D.val (xs.drop k) = lm xs k + 65536 * D.val (xs.drop (k + 1)) := by
  rw [List.drop_eq_getElem_cons h, lm_get _ _ h]; simp [D.val, D.BB]
theorem DDiv.start (xs : List Nat) (d : Nat) (hd : 0 < d) : DDiv xs d xs.length 0 [] := ⟨by simp, D.Ok.nil, hd, by simp [D.val]⟩
theorem dquo_lt {r x d : Nat} (hd : 0 < d) (hr : r < d) (hx : x < 65536) : (r * 65536 + x) / d < 65536 := by
  rw [Nat.div_lt_iff_lt_mul hd]
  have h1 : (r + 1) * 65536 ≤ d * 65536 := Nat.mul_le_mul_right _ hr
  omega
theorem DDiv.step {xs : List Nat} {d k r : Nat} {qs : List Nat} (h : DDiv xs d (k + 1) r qs) (hx : D.Ok xs) (hk : k < xs.length) :
    DDiv xs d k ((r * 65536 + lm xs k) % d) ((r * 65536 + lm xs k) / d :: qs) := by
  have hr := h.r1
  have hd : 0 < d := by omega
  refine ⟨by simp [h.len]; omega, D.Ok.cons (dquo_lt hd hr (dlm_lt hx k)) h.ok, Nat.mod_lt _ hd, ?_⟩
  rw [ddrop_val xs k hk, h.sum]
  simp only [D.val, D.BB]
  have e := Nat.div_add_mod (r * 65536 + lm xs k) d
  have e2 : d * ((r * 65536 + lm xs k) / d + 65536 * D.val qs) = d * ((r * 65536 + lm xs k) / d) + 65536 * (d * D.val qs) := by rw [Nat.mul_add, Nat.mul_left_comm]
  omega
theorem ddiv_end {xs : List Nat} {d r : Nat} {qs : List Nat} (h : DDiv xs d 0 r qs) : D.val qs = D.val xs / d ∧ r = D.val xs % d := by
  have hs := h.sum
  have hr := h.r1
  rw [List.drop_zero] at hs
  constructor
  · rw [hs, Nat.mul_add_div (by omega), Nat.div_eq_of_lt hr, Nat.add_zero]
  · rw [hs, Nat.mul_add_mod, Nat.mod_eq_of_lt hr]
theorem ddiv_next {w wr : World} {base g d k r cap : Nat} {xs zs qs : List Nat} {s : Int} (hat : DDiv xs d (k + 1) r qs) (hx : D.Ok xs) (hk : k < xs.length) (hz : zs.length = xs.length)
    (hrow : RowC wr base g xs.length cap (zs.take (k + 1) ++ qs)) (hbel : Below base w wr) (hs : s = ((r * 65536 + lm xs k : Nat) : Int)) :
    ∃ (k' r' : Nat) (qs' : List Nat), k' ≤ xs.length ∧ Value.int .i64 (↑k - 1) = .int .i64 ((k' : Int) - 1) ∧ Value.int .u64 (s % ↑d) = .int .u64 r' ∧ DDiv xs d k' r' qs' ∧
      RowC (wr.setCell ⟨g, k, none⟩ (.int .u32 (s / ↑d % 4294967296))) base g xs.length cap (zs.take k' ++ qs') ∧ Below base w (wr.setCell ⟨g, k, none⟩ (.int .u32 (s / ↑d % 4294967296))) := by
  have hq : (r * 65536 + lm xs k) / d < 65536 := dquo_lt (by have := hat.r1; omega) hat.r1 (dlm_lt hx k)
  have e1 : s % (d : Int) = (((r * 65536 + lm xs k) % d : Nat) : Int) := by rw [hs, Int.natCast_emod]
  have e2 : s / (d : Int) % 4294967296 = (((r * 65536 + lm xs k) / d : Nat) : Int) := by
    rw [hs, ← Int.natCast_ediv]; generalize (r * 65536 + lm xs k) / d = q at hq ⊢; omega
  refine ⟨k, _, _, by omega, rfl, by rw [e1], hat.step hx hk, ?_, hbel.setCell hrow.ge _⟩
  rw [e2]
  have := hrow.set k ((r * 65536 + lm xs k) / d)
  rw [take_set_drop zs qs k _ (by omega)] at this
  exact this
theorem RInt.digits {w : World} {v : Value} {n : Nat} (h : RInt w v (sg false n)) : ∃ l, v = .agg #[.bool false, l] ∧ Nums w l (D.lim n) := by
  obtain ⟨b, k, a, c, rfl, hn, he, h0⟩ := h
  have e : k = n := by have := congrArg Int.natAbs he; rw [sg_abs, sg_abs] at this; exact this.symm
  subst e
  cases b with
  | false => exact ⟨_, rfl, hn⟩
  | true =>
    have : k ≠ 0 := fun e => absurd (h0 e) (by decide)
    rw [sg_true, sg_false] at he
    omega
theorem dnums_lit (w : World) (x : Int) (n : Nat) (hx : x = n) (hn : n < 65536) : Nums (w.alloc (.cells #[.int .u32 x] 74)) (.slice (some ⟨w.heap.size, 0, none⟩) 1 1) [n] ∧ D.Ok [n] :=
  ⟨Own.nums (base := w.heap.size) (by subst hx; exact World.ownsRow_lit w #[.int .u32 (n : Int)] 1 (Nat.le_refl _) (by simp [maxLen]) rfl) (Ok.cons (by unfold BB; omega) Ok.nil), D.Ok.cons hn D.Ok.nil⟩
theorem Tryd.fieldD (W : World) (x l : Value) : Sem.run Tryd.prog (Instr.field 54 (.agg #[x, l]) 1) W = .ok l W := by kernel_rfl

set_option maxRecDepth 100000 in
set_option maxHeartbeats 4000000 in
theorem rdiv1_any (v1 v2 : Value) (m b : Nat) (w : World) (h1 : Nums w v1 (D.lim m)) (h2 : Nums w v2 [b]) (hb : 0 < b) (hb' : b < 65536) (l1 : (D.lim m).length ≤ 100000000) :
    Calls Tryd.prog 42 #[v1, v2] w fun e w' => ∃ q r, e = .returned (.tuple #[q, r]) ∧ Own w' w.heap.size q (D.lim (m / b)) ∧ Nums w' r (D.lim (m % b)) ∧ Below w.heap.size w w' := by
  obtain ⟨i0, hi, hz0, hz1, hz2⟩ := info_parts Tryd.info74
  have HN1 := hide h1
  have HVL := hide (D.val_lim m)
  have HOK := hide (D.ok_lim m)
  obtain ⟨_, a1, c1, rfl, hl1, hm1, hc1⟩ := h1
  obtain ⟨_, a2, c2, rfl, hl2, hm2, hc2⟩ := h2
  obtain ⟨B2, o2, rfl, hx2⟩ := hc2 (by simp)
  have HX2 : Hid (w.cell? ⟨B2, o2, none⟩ = some (.int .u32 (b : Nat))) := hide (by have := hx2 0 (by simp); simpa [lm] using this)
  have HC1 := hide hc1
  unfold maxLen at hm1 hm2
  clear hc1 hc2 hx2
  generalize D.lim m = L at *
  simp only [List.length_cons, List.length_nil, Nat.zero_add] at *
  go_enter Tryd.func42, Tryd.ntmps42
  go_wp2_with (at_make; refine wpList_make_full _ rfl _ _ 47 rfl w.heap.size 74 i0 (.int .u32 0) 1 Tryd.underlying47 hi hz0 hz1 _ _ _ _ L.length rfl rfl ?_ ?_ ?_ ?_ (Nat.le_refl _) ?_)
  all_goals try (first | rfl | omega)
  all_goals try (rw [hz2]; omega)
  all_goals try (unfold maxLen; omega)
  intro w2 hown hgrow
  have HB2 : Hid (Below w.heap.size w w2) := hide ((Below.refl _ _).grown hgrow (Nat.le_refl _) (fun k hk => by simp at hk))
  have HR2 : Hid (RowC w2 w.heap.size w.heap.size L.length L.length (List.replicate L.length 0)) := hide (by rw [made_fil] at hown; unfold RowC; simpa [fil] using hown)
  clear hown hgrow
  go_wp2
  go_loopw [7, 8] (fun rv iv wx => ∃ (k r : Nat) (qs : List Nat), k ≤ L.length ∧ iv = .int .i64 ((k : Int) - 1) ∧ rv = .int .u64 r ∧ DDiv L b k r qs ∧ RowC wx w.heap.size w.heap.size L.length L.length ((List.replicate L.length 0).take k ++ qs) ∧ Below w.heap.size w wx) (fun _ iv _ => (intOf iv + 1).toNat)
  case atStart => exact ⟨L.length, 0, [], Nat.le_refl _, by go_num, rfl, DDiv.start L b hb, by simpa using HR2.out, HB2.out⟩
  case round =>
    clear HR2 HB2
    obtain ⟨k, r, qs, hk, rfl, rfl, hat, hrow, hbel⟩ := hrel
    have hr := hat.r1
    cases k with
    | zero =>
      obtain ⟨hq1, hq2⟩ := ddiv_end hat
      have hlen : qs.length = L.length := by rw [hat.len]; omega
      rw [List.take_zero, List.nil_append] at hrow
      have HQ := hide (And.intro hq1 hq2)
      have HQN := hide (hrow.nums hlen (dok hat.ok))
      have HOW : Hid (Own wr w.heap.size (.slice (some ⟨w.heap.size, 0, none⟩) L.length L.length) qs) := hide (by unfold Own; rw [hlen]; exact hrow)
      have HQO := hide hat.ok
      have HBW := hide hbel
      clear hat hrow hbel hq1 hq2 hlen
      go_wp2_with fail
      refine (rnorm2_cut false _ qs _ HQN.out HQO.out).mono ?_
      rintro e w3 ⟨b3, l3, k3, rfl, hcut, hk3, ht3, hR3, hb3⟩
      have n3 := HOW.out.norm hcut hk3 ht3 hb3
      rw [HQ.out.1, HVL.out] at n3
      replace HBW := hide (HBW.out.trans (hb3.mono HBW.out.size))
      have HN3 := hide n3
      clear hR3 hb3 n3 HQN HQO HOW hcut hk3 ht3
      have hrI : ((r : Nat) : Int) < 65536 := by omega
      have hfld := Tryd.fieldD
      go_wp2_with fail
      have HL4 := hide (dnums_lit w3 ((r : Nat) : Int) r rfl (by omega))
      refine (rnorm2_any false _ [r] _ HL4.out.1 HL4.out.2).mono ?_
      rintro e w4 ⟨v4, rfl, hR4, hb4⟩
      rw [show D.val [r] = r by simp [D.val]] at hR4
      obtain ⟨l4, rfl, n4⟩ := hR4.digits
      have hal := below_alloc w3 (.cells #[.int .u32 ((r : Nat) : Int)] 74)
      replace HN3 := hide ((HN3.out.below hal).below hb4)
      replace HBW := hide ((HBW.out.trans (hal.mono HBW.out.size)).trans (hb4.mono (by have := HBW.out.size; rw [World.size_alloc]; omega)))
      have HN4 := hide n4
      clear hR4 hb4 n4 hal HL4
      go_wp2
      go_ret2
      exact ⟨_, _, rfl, HN3.out, by have := HN4.out; rwa [HQ.out.2, HVL.out] at this, HBW.out⟩
    | succ k =>
      obtain ⟨bA, oA, rfl, hxA⟩ := HC1.out (ne_nil (k := k) (by omega))
      have hx' : wr.cell? ⟨bA, oA + k, none⟩ = some (.int .u32 (lm L k : Nat)) := by
        have h0 := hxA k (by omega)
        rw [hbel.cell (World.block_lt_of_cell? w _ h0)]; exact h0
      have hx2 : wr.cell? ⟨B2, o2, none⟩ = some (.int .u32 (b : Nat)) := by
        have h0 := HX2.out
        rw [hbel.cell (World.block_lt_of_cell? w _ h0)]; exact h0
      have hB2 : B2 < w.heap.size := World.block_lt_of_cell? w _ HX2.out
      have hxb := dlm_lt HOK.out k
      have hfr := hrow.free k
      have hcl := hrow.cell (by rw [List.length_append, List.length_take, List.length_replicate, hat.len]; omega) k (by omega)
      have HAT := hide hat
      have HRW := hide hrow
      have HBW := hide hbel
      clear hat hrow hbel hxA
      go_wp2
      go_roundw
      case rel =>
        exact ddiv_next HAT.out HOK.out (by omega) (by simp) HRW.out HBW.out (s := (r : Int) * 65536 + (lm L k : Int)) (by omega)
      case measure => simp [intOf]
end Go.Proofs.YtdafdfgkfkanjaaDoor

namespace Go.Proofs.YtdafdfgkfkanjaaDoor
open Go.RowKit

def byV (xs : List Nat) : List Value := xs.map fun (x : Nat) => Value.int .u8 (x : Int)
theorem byV_length (xs : List Nat) : (byV xs).length = xs.length := by simp [byV]
theorem byV_get (xs : List Nat) (i : Nat) (h : i < xs.length) : (byV xs)[i]? = some (.int .u8 (lm xs i : Nat)) := by
  simp [byV, lm, h]
theorem byV_set (xs : List Nat) (i x : Nat) : (byV xs).set i (.int .u8 (x : Nat)) = byV (xs.set i x) := by simp [byV, List.map_set]
/-- a list of bytes, owned -/
def OwnB (w : World) (base : Nat) (v : Value) (xs : List Nat) : Prop := w.ownsRow base 5 1 v xs.length (byV xs)
def RowB (w : World) (base g n cap : Nat) (xs : List Nat) : Prop := w.ownsRow base 5 1 (.slice (some ⟨g, 0, none⟩) n cap) n (byV xs)
theorem OwnB.lt {w : World} {base : Nat} {v : Value} {xs : List Nat} (h : OwnB w base v xs) : ∀ k, v.ownBlock = some k → base ≤ k ∧ k < w.heap.size := World.ownsRow.lt h
theorem OwnB.below {w w' : World} {base : Nat} {v : Value} {xs : List Nat} (h : OwnB w base v xs) (hb : Below w.heap.size w w') : OwnB w' base v xs := by
  unfold OwnB at *
  refine h.kept (row := none) ⟨hb.os, hb.tape, hb.output, hb.size, fun k hk _ => hb.block k hk⟩ ?_
  cases hv : v.ownBlock <;> simp
theorem OwnB.row {w : World} {base : Nat} {v : Value} {xs : List Nat} (h : OwnB w base v xs) (hp : 0 < xs.length) : ∃ g cap, v = .slice (some ⟨g, 0, none⟩) xs.length cap ∧ cap ≤ maxLen ∧ xs.length ≤ cap ∧ base ≤ g ∧ RowB w base g xs.length cap xs := by
  rcases h.2 with ⟨_, h0⟩ | ⟨g, cap, cur, rfl, hb, hg, hnc, hcm, hcs, ht⟩
  · omega
  · exact ⟨g, cap, rfl, hcm, hnc, hb, h⟩
theorem RowB.cell {w : World} {base g n cap : Nat} {xs : List Nat} (h : RowB w base g n cap xs) (hl : xs.length = n) (i : Nat) (hi : i < n) : w.cell? ⟨g, i, none⟩ = some (.int .u8 (lm xs i : Nat)) := by
  rw [World.ownsRow.cellAt h i (by omega), byV_get _ _ (by omega)]
theorem RowB.free {w : World} {base g n cap : Nat} {xs : List Nat} (h : RowB w base g n cap xs) (i : Nat) : w.frozen? ⟨g, i, none⟩ = false := World.ownsRow.frozenAt h i
theorem RowB.set {w : World} {base g n cap : Nat} {xs : List Nat} (h : RowB w base g n cap xs) (i x : Nat) : RowB (w.setCell ⟨g, i, none⟩ (.int .u8 (x : Nat))) base g n cap (xs.set i x) := by
  have := (World.ownsRow.stored h i (.int .u8 (x : Nat))).1
  rw [byV_set] at this; exact this
/-- one more byte behind what is owned -/
theorem ownb_step {w5 w6 w1 : World} {base T : Nat} {v5 v6 : Value} {acc : List Nat} {x : Int} {n : Nat} (hx : x = (n : Int)) {o : Obj} (hO : OwnB w5 base v5 acc)
    (hown6 : w6.ownsRow base 5 1 v6 (acc.length + 1) (byV acc ++ [Value.int .u8 x])) (hgrow6 : (w5.alloc o).grownBy w6 v5.ownBlock) (hB5 : Below T w1 w5) (hT : T ≤ w5.heap.size) (hb : T ≤ base) :
    OwnB w6 base v6 (acc ++ [n]) ∧ Below T w1 w6 := by
  constructor
  · subst hx
    have e1 : byV acc ++ [Value.int .u8 (n : Int)] = byV (acc ++ [n]) := by simp [byV]
    rw [e1] at hown6
    show World.ownsRow _ _ _ _ _ _ _; simpa using hown6
  · exact (hB5.alloc hT o).grown hgrow6 (by simp; omega) (fun k hk => Nat.le_trans hb (hO.lt k hk).1)
theorem apart {w : World} {b1 b2 : Nat} {u v : Value} {xs ys : List Nat} (h : Own w b1 u xs) (k : OwnB w b2 v ys) : u.ownBlock = none ∨ u.ownBlock ≠ v.ownBlock := by
  rcases h.2 with ⟨rfl, _⟩ | ⟨g, cap, cur, rfl, _, hg, _⟩
  · exact .inl rfl
  · rcases k.2 with ⟨rfl, _⟩ | ⟨g', cap', cur', rfl, _, hg', _⟩
    · exact .inr (by simp [Value.ownBlock])
    · refine .inr (fun e => ?_)
      simp only [Value.ownBlock, Option.some.injEq] at e
      subst e
      rw [hg] at hg'
      simp at hg'
/-- the low digits, low one first, as signs -/
def lowr (j N : Nat) : List Nat := (List.range j).map fun i => 48 + N / 10 ^ i % 10
theorem lowr_length (j N : Nat) : (lowr j N).length = j := by simp [lowr]
theorem lowr_succ (j N : Nat) : lowr (j + 1) N = lowr j N ++ [48 + N / 10 ^ j % 10] := by simp [lowr, List.range_succ]
theorem lowr_rev (k N : Nat) : (lowr (k + 1) N).reverse = (digs k N).map (48 + ·) := by
  apply List.ext_getElem?
  intro i
  by_cases h : i ≤ k
  · rw [List.getElem?_reverse (by rw [lowr_length]; omega), List.getElem?_map, digs_get k N i h, lowr_length]
    rw [lowr, List.getElem?_map, List.getElem?_range (by omega)]
    simp only [Option.map_some, show k + 1 - 1 - i = k - i by omega]
  · rw [List.getElem?_eq_none (by rw [List.length_reverse, lowr_length]; omega), List.getElem?_eq_none (by rw [List.length_map, digs_length]; omega)]

/-- i pairs swapped, from the ends on -/
def fl (xs : List Nat) : Nat → List Nat
  | 0 => xs
  | i + 1 => ((fl xs i).set i (lm xs (xs.length - 1 - i))).set (xs.length - 1 - i) (lm xs i)
theorem fl_length (xs : List Nat) (i : Nat) : (fl xs i).length = xs.length := by
  induction i with
  | zero => rfl
  | succ i ih => simp [fl, ih]
theorem fl_at (xs : List Nat) (i j : Nat) (hi : 2 * i ≤ xs.length) (hj : j < xs.length) : lm (fl xs i) j = if j < i ∨ xs.length - i ≤ j then lm xs (xs.length - 1 - j) else lm xs j := by
  induction i generalizing j with
  | zero => rw [if_neg (by omega)]; rfl
  | succ i ih =>
    have e1 : ∀ (ys : List Nat) (p x q : Nat), p < ys.length → lm (ys.set p x) q = if p = q then x else lm ys q := by
      intro ys p x q hp
      unfold lm
      rw [List.getD_eq_getElem?_getD, List.getD_eq_getElem?_getD, List.getElem?_set]
      by_cases h : p = q
      · subst h; simp [hp]
      · simp [h]
    rw [fl, e1 _ _ _ _ (by rw [List.length_set, fl_length]; omega), e1 _ _ _ _ (by rw [fl_length]; omega), ih j (by omega) hj]
    by_cases c1 : xs.length - 1 - i = j
    · rw [if_pos c1, if_pos (by omega)]; congr 1; omega
    · rw [if_neg c1]
      by_cases c2 : i = j
      · rw [if_pos c2, if_pos (by omega), c2]
      · rw [if_neg c2]
        by_cases c3 : j < i ∨ xs.length - i ≤ j
        · rw [if_pos c3, if_pos (by omega)]
        · rw [if_neg c3, if_neg (by omega)]
theorem fl_end (xs : List Nat) : fl xs (xs.length / 2) = xs.reverse := by
  apply List.ext_getElem (by rw [fl_length, List.length_reverse])
  intro j h1 h2
  rw [fl_length] at h1
  have := fl_at xs (xs.length / 2) j (by omega) h1
  rw [lm_get _ _ (by rw [fl_length]; exact h1)] at this
  rw [this, List.getElem_reverse]
  by_cases c : j < xs.length / 2 ∨ xs.length - xs.length / 2 ≤ j
  · rw [if_pos c, lm_get _ _ (by omega)]
  · rw [if_neg c, ← lm_get _ _ (by omega)]; congr 1; omega

theorem lowr_byts {N j : Nat} (hj : 0 < j) (h1 : N < 10 ^ j) (h2 : 10 ^ (j - 1) ≤ N) : (lowr j N).reverse = (dec N).map (48 + ·) := by
  obtain ⟨k, rfl⟩ : ∃ k, j = k + 1 := ⟨j - 1, by omega⟩
  rw [lowr_rev]
  unfold dec
  rw [nd_unique h1 (.inr h2)]
theorem byts_map (ds : List Nat) : (ds.map (48 + ·)).map (fun (x : Nat) => (x : Int)) = byts ds := by
  simp [byts]
/-- a number of so many digits to the base 65536 has no more decimal ones than that -/
theorem ddig_few {N j k : Nat} (h : (D.lim N).length ≤ k) (hj : j = 0 ∨ 10 ^ (j - 1) ≤ N) : j ≤ 16 * k + 1 := by
  rcases hj with h0 | h0
  · omega
  · have h1 : N < D.BB ^ k := by
      have := D.val_lt (D.ok_lim N)
      rw [D.val_lim] at this
      exact Nat.lt_of_lt_of_le this (Nat.pow_le_pow_right D.BB_pos h)
    have h2 : 2 ^ (j - 1) ≤ 10 ^ (j - 1) := Nat.pow_le_pow_left (by decide) _
    have h3 : D.BB ^ k = 2 ^ (16 * k) := by rw [show D.BB = 2 ^ 16 from rfl, ← Nat.pow_mul]
    have h4 : 2 ^ (j - 1) < 2 ^ (16 * k) := by rw [← h3]; exact Nat.lt_of_le_of_lt (Nat.le_trans h2 h0) h1
    have := (Nat.pow_lt_pow_iff_right (by decide)).1 h4
    omega
theorem dlim_digit {r : Nat} (h : r < 65536) (h0 : r ≠ 0) : D.lim r = [r] := by
  have hB : r < D.BB := h
  rw [D.lim_pos (Nat.pos_of_ne_zero h0), Nat.div_eq_of_lt hB, Nat.mod_eq_of_lt hB]; rfl

theorem Own.lower2 {w : World} {base base' : Nat} {v : Value} {xs : List Nat} (h : Own w base v xs) (hb : base' ≤ base) : Own w base' v xs := by
  refine ⟨h.1, ?_⟩
  rcases h.2 with k | ⟨g, cap, cur, e, hg, r⟩
  · exact .inl k
  · exact .inr ⟨g, cap, cur, e, Nat.le_trans hb hg, r⟩
def lenV : Value → Nat
  | .slice _ n _ => n
  | _ => 0
theorem OwnB.len {w : World} {base : Nat} {v : Value} {xs : List Nat} (h : OwnB w base v xs) : lenV v = xs.length := by
  rcases h.2 with ⟨rfl, h0⟩ | ⟨g, cap, cur, rfl, _⟩
  · exact h0.symm
  · rfl
theorem OwnB.nilOf {w : World} {base : Nat} {v : Value} (h : OwnB w base v []) (h0 : v.ownBlock = none) : v = .slice none 0 0 := by
  rcases h.2 with ⟨rfl, _⟩ | ⟨g, cap, cur, rfl, _⟩
  · rfl
  · simp [Value.ownBlock] at h0
theorem OwnB.shape {w : World} {base : Nat} {v : Value} {xs : List Nat} (h : OwnB w base v xs) : ∃ a c, v = .slice a xs.length c ∧ xs.length ≤ c ∧ c ≤ maxLen := by
  rcases h.2 with ⟨rfl, h0⟩ | ⟨g, cap, cur, rfl, _, _, h1, h2, _⟩
  · exact ⟨none, 0, by rw [h0], by omega, Nat.zero_le _⟩
  · exact ⟨_, cap, rfl, h1, h2⟩

set_option maxRecDepth 100000 in
set_option maxHeartbeats 4000000 in
theorem rtext2_any (v : Value) (z : Int) (w : World) (h : RInt w v z) (hl : (D.lim z.natAbs).length ≤ 1000000) :
    Calls Tryd.prog 23 #[v] w fun e w' => e = .returned (.string (itxt z)) ∧ Below w.heap.size w w' := by
  obtain ⟨i0, hi, hz0, hz1, hz2⟩ := info_parts Tryd.info5
  obtain ⟨b, N, a, c, rfl, hn, hz, h0⟩ := h
  rw [hz, sg_abs] at hl
  have HLE := hide hl
  have HT : Hid (itxt z = strOfNums ((if b then [45] else []) ++ byts (dec N))) := hide (by
    rw [hz]
    cases b with
    | false => have := itxt_pos N; simp only [Ending.returned.injEq, Value.string.injEq] at this; rw [← this]; rfl
    | true => have := itxt_neg N (fun e => absurd (h0 e) (by decide)); simp only [Ending.returned.injEq, Value.string.injEq] at this; rw [← this]; rfl)
  have HBX := hide (Box2.new w 54 (.bool b) (.slice a (D.lim N).length c))
  have HN := hide (hn.below (below_alloc w (.cells #[.bool b, .slice a (D.lim N).length c] 54)))
  have H0 := hide h0
  clear hn hl h0 hz
  have hbx0 := HBX.out.cell0
  have hbx1 := HBX.out.cell1
  go_enter Tryd.func23, Tryd.ntmps23
  go_wp2
  clear hbx0 hbx1
  go_loopw [3, 4, 5, 6, 7] (fun lv dv qv rv cv wr => ∃ j : Nat, OwnB wr (w.heap.size + 1) lv (lowr j N) ∧ Nums wr dv (D.lim (N / 10 ^ j)) ∧ (lv = .slice none 0 0 ∨ Own wr (w.heap.size + 1) dv (D.lim (N / 10 ^ j))) ∧ (j = 0 ∨ 10 ^ (j - 1) ≤ N) ∧ Below (w.heap.size + 1) (w.alloc (.cells #[.bool b, .slice a (D.lim N).length c] 54)) wr) (fun lv _ _ _ _ _ => 16 * 1000000 + 2 - lenV lv)
  case atStart => exact ⟨0, World.ownsRow_nil _ _ _ _, by simpa using HN.out, .inl rfl, .inl rfl, Below.refl _ _⟩
  case round =>
    obtain ⟨j, hO, hN, hA, hj, hbel⟩ := hrel
    obtain ⟨wo, rfl⟩ : ∃ wo, wo = wr := ⟨_, rfl⟩
    have HO := hide hO
    have HNd := hide hN
    have HA := hide hA
    have HJ := hide hj
    have HBE := hide hbel
    have HB2 := hide (HBX.out.below hbel (Nat.lt_succ_self _))
    have HBW := hide ((below_alloc w (.cells #[.bool b, .slice a (D.lim N).length c] 54)).trans (hbel.mono (Nat.le_succ _)))
    have hjb := ddig_few HLE.out hj
    obtain ⟨la, lc, hlv, hlc1, hlc2⟩ := hO.shape
    rw [lowr_length] at hlv hlc1
    subst hlv
    unfold maxLen at hlc2
    clear hO hA hj hbel
    by_cases hm0 : N / 10 ^ j = 0
    · have HM0 := hide hm0
      rw [hm0, D.lim_zero] at hN
      obtain ⟨_, da, dc, rfl, _, hmd, _⟩ := hN
      simp only [List.length_nil]
      clear hm0 hmd
      have HEND : Hid (j = 0 → N = 0) := hide (fun h => by have := HM0.out; rw [h] at this; simpa using this)
      have HLT : Hid (0 < j → (lowr j N).reverse = (dec N).map (48 + ·)) := hide (fun hj0 => by
        have hlt : N < 10 ^ j := by
          rcases Nat.lt_or_ge N (10 ^ j) with h | h
          · exact h
          · have := Nat.div_pos h (pow_pos10 j); have := HM0.out; omega
        exact lowr_byts hj0 hlt (by rcases HJ.out with h | h; omega; exact h))
      have hb0 := HB2.out.cell0
      by_cases hj0 : j = 0
      · subst hj0
        have e : N = 0 := HEND.out rfl
        subst e
        have hbf : b = false := H0.out rfl
        subst hbf
        go_wp2
        go_ret
        exact ⟨by rw [HT.out]; rfl, HBW.out⟩
      · have hjp : 0 < j := by omega
        have hjz : ((j : Int) == 0) = false := by rw [beq_eq_false_iff_ne]; omega
        cases b with
        | false =>
          obtain ⟨X, hX⟩ : ∃ X, X = lowr j N := ⟨_, rfl⟩
          have HX : Hid (OwnB wo (w.heap.size + 1) (.slice la j lc) X) := hide (by rw [hX]; exact HO.out)
          have HXN : Hid (X.length = j) := hide (by rw [hX, lowr_length])
          have HXL : Hid (X.length ≤ 16000001) := hide (by rw [hX, lowr_length]; omega)
          have HXR : Hid (X.reverse.map (fun (x : Nat) => (x : Int)) = (if false then [45] else []) ++ byts (dec N)) := hide (by rw [hX, HLT.out hjp, byts_map]; rfl)
          clear hX HO HNd HA HBE HB2
          obtain ⟨g, cap, he, hcm, hnc, hbg, hrow⟩ := HX.out.row (by have := HXN.out; omega)
          simp only [Value.slice.injEq] at he
          obtain ⟨rfl, hjX, rfl⟩ := he
          rw [hjX]
          clear hjX
          have HRW := hide hrow
          have HBG := hide hbg
          unfold maxLen at hcm
          obtain ⟨n, hn⟩ : ∃ n, n = X.length := ⟨_, rfl⟩
          have HNN := hide hn
          rw [← hn] at hnc hrow HRW ⊢
          have hnp : 0 < n := by have := HXN.out; omega
          have hnb : n ≤ 16000010 := by have := HXL.out; omega
          clear hrow hbg hn HX
          go_wp2
          go_loopw [8] (fun iv wr => ∃ i : Nat, i ≤ n / 2 ∧ iv = .int .i64 i ∧ RowB wr (w.heap.size + 1) g n lc (fl X i) ∧ Below w.heap.size w wr) (fun iv _ => n - (intOf iv).toNat)
          case atStart => exact ⟨0, Nat.zero_le _, rfl, HRW.out, HBW.out⟩
          case round =>
            clear HRW HBW
            obtain ⟨i, hi2, rfl, hrow, hbel⟩ := hrel
            have hfl : (fl X i).length = n := by rw [fl_length]; exact HNN.out.symm
            by_cases hlt : i < n / 2
            · have hc1 := hrow.cell hfl i (by omega)
              have hc2 := hrow.cell hfl (n - 1 - i) (by omega)
              rw [fl_at X i i (by have := HNN.out; omega) (by have := HNN.out; omega), if_neg (by have := HNN.out; omega)] at hc1
              rw [fl_at X i (n - 1 - i) (by have := HNN.out; omega) (by have := HNN.out; omega), if_neg (by have := HNN.out; omega)] at hc2
              have hf1 := hrow.free i
              have hf2 := hrow.free (n - 1 - i)
              have HRW := hide hrow
              have HBW := hide hbel
              have HFL := hide hfl
              clear hrow hbel hfl
              have ht : ((n : Int) - 1 - (i : Int)) = ((n - 1 - i : Nat) : Int) := by omega
              have hltI : (i : Int) < (n : Int) / 2 := by omega
              obtain ⟨p, hp⟩ : ∃ p, p = n - 1 - i := ⟨_, rfl⟩
              have HP := hide hp
              rw [← hp] at hc2 hf2 ht
              have hpn : p < n := by omega
              have hip : i < p := by omega
              have hin : i < n := by omega
              clear hp
              go_wp2
              go_region
              all_goals
                go_wp2
                go_roundw
                case rel =>
                  refine ⟨i + 1, by omega, by go_num, ?_, ?_⟩
                  · have h1 := (HRW.out.set i (lm X p)).set p (lm X i)
                    rw [HP.out, HNN.out] at h1
                    rw [HP.out, HNN.out]
                    exact h1
                  · exact ((HBW.out.setCell (p := ⟨g, i, none⟩) (by have := HBG.out; show _ ≤ g; omega) _).setCell (p := ⟨g, p, none⟩) (by have := HBG.out; show _ ≤ g; omega) _).drew
                case measure => simp [intOf]; omega
            · have e : i = n / 2 := by omega
              subst e
              have hfe := fl_end X
              rw [← HNN.out] at hfe
              rw [hfe] at hrow
              obtain ⟨Y, hY⟩ : ∃ Y, Y = X.reverse.map (fun (x : Nat) => (x : Int)) := ⟨_, rfl⟩
              have HY := hide hY
              have hconv := run_convert_bytes_arg (P := Tryd.prog) wr 42 5 Tryd.underlying42 Tryd.underlying5 g 0 n lc Y (by rw [hY, List.length_map, List.length_reverse]; exact HNN.out.symm) (by
                intro k hk
                have hk' : k < X.reverse.length := by rw [List.length_reverse, ← HNN.out]; exact hk
                rw [show 0 + k = k from by omega, World.ownsRow.cellAt hrow k (by omega), byV_get _ _ hk', hY]
                simp only [lm, List.getD_eq_getElem?_getD, List.getElem?_map, List.getElem?_eq_getElem hk']
                rfl) 9 Tryd.underlying9
              clear hY
              have HBW := hide hbel
              clear hrow hbel hfl hfe
              go_wp2
              go_ret
              refine ⟨?_, HBW.out⟩
              rw [HT.out, ← HXR.out, ← HY.out]
              rfl
        | true =>
          have hlen := lowr_length j N
          have hbs : w.heap.size + 1 ≤ wo.heap.size := by have := HBE.out.size; rw [World.size_alloc] at this; omega
          go_wp2_with (at_builtin; refine wpList_append_own _ rfl _ _ 42 rfl (w.heap.size + 1) 5 i0 (.int .u8 0) 1 1 Tryd.underlying42 hi hz0 hz1 hz2 rfl (by decide) _ _ _ rfl (World.ownsRow.alloc HO.out _) ⟨_, 0, none⟩ 1 1 [.int .u8 45] rfl rfl ?_ ?_ ?_ ?_ ?_ ?_)
          · rfl
          · unfold maxLen; omega
          · omega
          · first | omega | (simp; omega)
          · intro v6 w6 hown6 hgrow6 _
            skip
            obtain ⟨hO6, hB6⟩ := ownb_step (n := 45) rfl HO.out (by rw [lowr_length]; exact hown6) hgrow6 HBW.out (by have := HBE.out.size; rw [World.size_alloc] at this; omega) (Nat.le_succ _)
            obtain ⟨X, hX⟩ : ∃ X, X = lowr j N ++ [45] := ⟨_, rfl⟩
            have HX : Hid (OwnB w6 (w.heap.size + 1) v6 X) := hide (by rw [hX]; exact hO6)
            have HXN : Hid (X.length = j + 1) := hide (by rw [hX, List.length_append, lowr_length]; rfl)
            have HXL : Hid (X.length ≤ 16000002) := hide (by have := HXN.out; omega)
            have HXR : Hid (X.reverse.map (fun (x : Nat) => (x : Int)) = (if true then [45] else []) ++ byts (dec N)) := hide (by rw [hX, List.reverse_append, HLT.out hjp, List.map_append, byts_map]; rfl)
            have HBV := hide hB6
            clear hX HO HNd HA HBE HB2 HBW hown6 hgrow6 hO6 hB6 hb0
            have HBW := hide HBV.out
            clear HBV
            obtain ⟨g, cap, rfl, hcm, hnc, hbg, hrow⟩ := HX.out.row (by have := HXN.out; omega)
            have HRW := hide hrow
            have HBG := hide hbg
            unfold maxLen at hcm
            obtain ⟨n, hn⟩ : ∃ n, n = X.length := ⟨_, rfl⟩
            have HNN := hide hn
            rw [← hn] at hnc hrow HRW ⊢
            have hnp : 0 < n := by have := HXN.out; omega
            have hnb : n ≤ 16000010 := by have := HXL.out; omega
            clear hrow hbg hn HX
            go_wp2
            go_loopw [8] (fun iv wr => ∃ i : Nat, i ≤ n / 2 ∧ iv = .int .i64 i ∧ RowB wr (w.heap.size + 1) g n cap (fl X i) ∧ Below w.heap.size w wr) (fun iv _ => n - (intOf iv).toNat)
            case atStart => exact ⟨0, Nat.zero_le _, rfl, HRW.out, HBW.out⟩
            case round =>
              clear HRW HBW
              obtain ⟨i, hi2, rfl, hrow, hbel⟩ := hrel
              have hfl : (fl X i).length = n := by rw [fl_length]; exact HNN.out.symm
              by_cases hlt : i < n / 2
              · have hc1 := hrow.cell hfl i (by omega)
                have hc2 := hrow.cell hfl (n - 1 - i) (by omega)
                rw [fl_at X i i (by have := HNN.out; omega) (by have := HNN.out; omega), if_neg (by have := HNN.out; omega)] at hc1
                rw [fl_at X i (n - 1 - i) (by have := HNN.out; omega) (by have := HNN.out; omega), if_neg (by have := HNN.out; omega)] at hc2
                have hf1 := hrow.free i
                have hf2 := hrow.free (n - 1 - i)
                have HRW := hide hrow
                have HBW := hide hbel
                have HFL := hide hfl
                clear hrow hbel hfl
                have ht : ((n : Int) - 1 - (i : Int)) = ((n - 1 - i : Nat) : Int) := by omega
                have hltI : (i : Int) < (n : Int) / 2 := by omega
                obtain ⟨p, hp⟩ : ∃ p, p = n - 1 - i := ⟨_, rfl⟩
                have HP := hide hp
                rw [← hp] at hc2 hf2 ht
                have hpn : p < n := by omega
                have hip : i < p := by omega
                have hin : i < n := by omega
                clear hp
                go_wp2
                go_region
                all_goals
                  go_wp2
                  go_roundw
                  case rel =>
                    refine ⟨i + 1, by omega, by go_num, ?_, ?_⟩
                    · have h1 := (HRW.out.set i (lm X p)).set p (lm X i)
                      rw [HP.out, HNN.out] at h1
                      rw [HP.out, HNN.out]
                      exact h1
                    · exact ((HBW.out.setCell (p := ⟨g, i, none⟩) (by have := HBG.out; show _ ≤ g; omega) _).setCell (p := ⟨g, p, none⟩) (by have := HBG.out; show _ ≤ g; omega) _).drew
                  case measure => simp [intOf]; omega
              · have e : i = n / 2 := by omega
                subst e
                have hfe := fl_end X
                rw [← HNN.out] at hfe
                rw [hfe] at hrow
                obtain ⟨Y, hY⟩ : ∃ Y, Y = X.reverse.map (fun (x : Nat) => (x : Int)) := ⟨_, rfl⟩
                have HY := hide hY
                have hconv := run_convert_bytes_arg (P := Tryd.prog) wr 42 5 Tryd.underlying42 Tryd.underlying5 g 0 n cap Y (by rw [hY, List.length_map, List.length_reverse]; exact HNN.out.symm) (by
                  intro k hk
                  have hk' : k < X.reverse.length := by rw [List.length_reverse, ← HNN.out]; exact hk
                  rw [show 0 + k = k from by omega, World.ownsRow.cellAt hrow k (by omega), byV_get _ _ hk', hY]
                  simp only [lm, List.getD_eq_getElem?_getD, List.getElem?_map, List.getElem?_eq_getElem hk']
                  rfl) 9 Tryd.underlying9
                clear hY
                have HBW := hide hbel
                clear hrow hbel hfl hfe
                go_wp2
                go_ret
                refine ⟨?_, HBW.out⟩
                rw [HT.out, ← HXR.out, ← HY.out]
                rfl
    · have HM0 := hide (Nat.pos_of_ne_zero hm0)
      have HDM : Hid (N / 10 ^ (j + 1) = N / 10 ^ j / 10) := hide (by rw [Nat.pow_succ, Nat.div_div_eq_div_mul])
      have HDG : Hid (10 ^ j ≤ N) := hide (by
        rcases Nat.lt_or_ge N (10 ^ j) with h | h
        · rw [Nat.div_eq_of_lt h] at hm0; exact absurd rfl hm0
        · exact h)
      have hjb2 := ddig_few (j := j + 1) HLE.out (.inr (by simpa using HDG.out))
      have HLM : Hid ((D.lim (N / 10 ^ j)).length ≤ 1000000) := hide (Nat.le_trans (D.lim_length_le (Nat.lt_of_le_of_lt (Nat.div_le_self _ _) (by have := D.val_lt (D.ok_lim N); rw [D.val_lim] at this; exact this))) HLE.out)
      obtain ⟨m, hm⟩ : ∃ m, m = N / 10 ^ j := ⟨_, rfl⟩
      have HME := hide hm
      rw [← hm] at hN
      clear hm hm0
      rw [← HME.out] at HM0 HLM HDM HNd HA
      have hpl : 0 < (D.lim m).length := by rw [D.lim_pos HM0.out]; simp
      have hl6 := HLM.out
      obtain ⟨_, da, dc, rfl, hlc, hmc, hcc⟩ := hN
      unfold maxLen at hmc
      clear hcc
      generalize hL : (D.lim m).length = L at *
      go_wp2_with fail
      refine (rdiv1_any _ _ m 10 _ (HNd.out.below (below_alloc _ _)) (dnums_lit wo 10 10 rfl (by decide)).1 (by decide) (by decide) (by omega)).mono ?_
      rintro e w3 ⟨qv, rv, rfl, hq, hr, hb3⟩
      have hal := below_alloc wo (.cells #[.int .u32 10] 74)
      have hb3' := hal.trans (hb3.mono (by rw [World.size_alloc]; omega))
      have HQ := hide (Own.lower2 hq (base' := (w.heap.size + 1)) (by have := HBE.out.size; rw [World.size_alloc] at this ⊢; omega))
      replace HO := hide (HO.out.below hb3')
      replace HBW := hide (HBW.out.trans (hb3'.mono HBW.out.size))
      replace HBE := hide (HBE.out.trans (hb3'.mono (by have := HBE.out.size; rw [World.size_alloc] at this; omega)))
      have hlen := lowr_length j N
      have hbs : w.heap.size + 1 ≤ w3.heap.size := by have := HBE.out.size; rw [World.size_alloc] at this; omega
      have HRV := hide hr
      clear hq hr hb3 hal hb3' HNd HA HB2
      have hr10 : m % 10 < 10 := Nat.mod_lt _ (by decide)
      have HDD : Hid (N / 10 ^ j % 10 = m % 10) := hide (by rw [HME.out])
      obtain ⟨r, hr⟩ : ∃ r, r = m % 10 := ⟨_, rfl⟩
      rw [← hr] at HRV HDD hr10
      clear hr
      by_cases hr0 : r = 0
      · subst hr0
        have hrv := HRV.out
        rw [D.lim_zero] at hrv
        obtain ⟨_, ra, rc, rfl, _, hmr, _⟩ := hrv
        simp only [List.length_nil]
        clear hmr HRV
        go_wp2_with (at_builtin; refine wpList_append_own _ rfl _ _ 42 rfl (w.heap.size + 1) 5 i0 (.int .u8 0) 1 1 Tryd.underlying42 hi hz0 hz1 hz2 rfl (by decide) _ _ _ rfl (World.ownsRow.alloc HO.out _) ⟨_, 0, none⟩ 1 1 [.int .u8 (48)] rfl rfl ?_ ?_ ?_ ?_ ?_ ?_)
        · intro i u hi'
          match i, hi' with
          | 0, hi' => simp at hi'; subst hi'; simp [Addr.add]
        · intro u hu; simp at hu; subst hu; rfl
        · unfold maxLen; omega
        · omega
        · simp; omega
        · intro v6 w6 hown6 hgrow6 _
          have HQ6 := hide (World.ownsRow.kept (World.ownsRow.alloc HQ.out _) hgrow6 (by have := apart HQ.out HO.out; simpa using this))
          obtain ⟨hO6, hB6⟩ := ownb_step (x := 48) (n := (48 + 0)) (by omega) HO.out (by rw [lowr_length]; exact hown6) hgrow6 HBE.out (by have := HBE.out.size; rw [World.size_alloc] at this; omega) (Nat.le_refl _)
          have HO6 : Hid (OwnB w6 (w.heap.size + 1) v6 (lowr (j + 1) N)) := hide (by rw [lowr_succ, HDD.out]; exact hO6)
          have HB6 := hide hB6
          clear hown6 hgrow6 hO6 hB6
          go_wp2
          go_roundw
          case rel => exact ⟨j + 1, HO6.out, by rw [HDM.out]; exact Own.nums HQ6.out (dok (D.ok_lim _)), .inr (by rw [HDM.out]; exact HQ6.out), .inr (by simpa using HDG.out), HB6.out⟩
          case measure => rw [HO6.out.len, lowr_length]; simp only [lenV]; omega
      · have hrv := HRV.out
        rw [dlim_digit (by omega) hr0] at hrv
        obtain ⟨_, ra, rc, rfl, hrc, hmr, hcr⟩ := hrv
        obtain ⟨rb, ro, rfl, hcs⟩ := hcr (by simp)
        have hrc0 : w3.cell? ⟨rb, ro, none⟩ = some (.int .u32 (r : Nat)) := by have := hcs 0 (by simp); simpa [lm] using this
        simp only [List.length_cons, List.length_nil, Nat.zero_add] at hrc ⊢
        unfold maxLen at hmr
        clear hcr hcs HRV
        go_wp2_with (at_builtin; refine wpList_append_own _ rfl _ _ 42 rfl (w.heap.size + 1) 5 i0 (.int .u8 0) 1 1 Tryd.underlying42 hi hz0 hz1 hz2 rfl (by decide) _ _ _ rfl (World.ownsRow.alloc HO.out _) ⟨_, 0, none⟩ 1 1 [.int .u8 (48 + (r : Int))] rfl rfl ?_ ?_ ?_ ?_ ?_ ?_)
        · intro i u hi'
          match i, hi' with
          | 0, hi' => simp at hi'; subst hi'; simp [Addr.add]
        · intro u hu; simp at hu; subst hu; rfl
        · unfold maxLen; omega
        · omega
        · simp; omega
        · intro v6 w6 hown6 hgrow6 _
          have HQ6 := hide (World.ownsRow.kept (World.ownsRow.alloc HQ.out _) hgrow6 (by have := apart HQ.out HO.out; simpa using this))
          obtain ⟨hO6, hB6⟩ := ownb_step (x := 48 + (r : Int)) (n := (48 + r)) (by omega) HO.out (by rw [lowr_length]; exact hown6) hgrow6 HBE.out (by have := HBE.out.size; rw [World.size_alloc] at this; omega) (Nat.le_refl _)
          have HO6 : Hid (OwnB w6 (w.heap.size + 1) v6 (lowr (j + 1) N)) := hide (by rw [lowr_succ, HDD.out]; exact hO6)
          have HB6 := hide hB6
          clear hown6 hgrow6 hO6 hB6
          go_wp2
          go_roundw
          case rel => exact ⟨j + 1, HO6.out, by rw [HDM.out]; exact Own.nums HQ6.out (dok (D.ok_lim _)), .inr (by rw [HDM.out]; exact HQ6.out), .inr (by simpa using HDG.out), HB6.out⟩
          case measure => rw [HO6.out.len, lowr_length]; simp only [lenV]; omega
end Go.Proofs.YtdafdfgkfkanjaaDoor

namespace Go.Proofs.YtdafdfgkfkanjaaDoor
open Go.RowKit Go.Shelf

/-- the text of the first k numbers, with the bracket ahead -/
def txN (zs : List Int) : Nat → ByteArray
  | 0 => ⟨#[91]⟩
  | k + 1 => (if k = 0 then txN zs k else txN zs k ++ ⟨#[32]⟩) ++ itxt (zs.getD k 0)
theorem join_snoc (x : List UInt8) (sep : List UInt8) : ∀ (ps : List (List UInt8)), ps ≠ [] → Lib.join (ps ++ [x]) sep = Lib.join ps sep ++ sep ++ x
  | [p], _ => by simp [Lib.join, List.intercalate, List.intersperse]
  | p :: q :: ps, _ => by
    have := join_snoc x sep (q :: ps) (by simp)
    simp only [Lib.join, List.intercalate, List.cons_append, List.intersperse, List.flatten_cons] at this ⊢
    rw [this]
    simp
theorem txN_bl (zs : List Int) : ∀ k, k ≤ zs.length → bl (txN zs k) = 91 :: Lib.join ((zs.take k).map fun z => (itxt z).data.toList) [32]
  | 0, _ => rfl
  | k + 1, h => by
    have ih := txN_bl zs k (by omega)
    have hk : zs.take (k + 1) = zs.take k ++ [zs.getD k 0] := by
      rw [List.take_add_one, List.getElem?_eq_getElem (show k < zs.length from h), List.getD_eq_getElem?_getD, List.getElem?_eq_getElem (show k < zs.length from h)]
      rfl
    rw [hk, List.map_append, List.map_singleton]
    unfold txN
    have happ : ∀ s t : ByteArray, bl (s ++ t) = bl s ++ bl t := fun s t => by unfold bl; rw [ByteArray.data_append, Array.toList_append]
    by_cases h0 : k = 0
    · subst h0
      rw [if_pos rfl, happ]
      simp [txN, bl, Lib.join_one]
    · rw [if_neg h0, happ, happ, ih, join_snoc _ _ _ (by cases zs with | nil => simp at h | cons a l => cases k with | zero => exact absurd rfl h0 | succ k => simp)]
      simp [bl]
theorem txN_end (zs : List Int) : txN zs zs.length ++ ⟨#[93]⟩ = wtxt zs := by
  apply bl_inj
  have happ : ∀ s t : ByteArray, bl (s ++ t) = bl s ++ bl t := fun s t => by unfold bl; rw [ByteArray.data_append, Array.toList_append]
  rw [happ, txN_bl zs _ (Nat.le_refl _), List.take_length]
  unfold wtxt
  rw [happ, happ]
  simp [bl]

theorem txN_step (zs : List Int) (k : Nat) : (txN zs k).size + (itxt (zs.getD k 0)).size ≤ (txN zs (k + 1)).size := by
  show _ ≤ ((if k = 0 then txN zs k else txN zs k ++ ⟨#[32]⟩) ++ itxt (zs.getD k 0)).size
  rw [ByteArray.size_append]
  split
  · omega
  · rw [ByteArray.size_append]; omega
theorem txN_le (zs : List Int) (k : Nat) : ∀ j, (txN zs k).size ≤ (txN zs (k + j)).size
  | 0 => Nat.le_refl _
  | j + 1 => Nat.le_trans (txN_le zs k j) (by have := txN_step zs (k + j); rw [show k + (j + 1) = k + j + 1 from rfl]; omega)
theorem txN_small {zs : List Int} {k : Nat} (h : k ≤ zs.length) (hs : (wtxt zs).size ≤ 65536) : (txN zs k).size ≤ 65536 := by
  have h1 := txN_le zs k (zs.length - k)
  rw [show k + (zs.length - k) = zs.length from by omega] at h1
  rw [← txN_end, ByteArray.size_append] at hs
  omega

set_option maxRecDepth 100000 in
set_option maxHeartbeats 2000000 in
theorem rtx_any (va : Value) (zs : List Int) (w : World) (h : RInts w va zs) (hs : ∀ i, (D.lim (zs.getD i 0).natAbs).length ≤ 1000000) (hw : (wtxt zs).size ≤ 65536) :
    Calls Tryd.prog 11 #[va] w fun e w' => e = .returned (.string (wtxt zs)) ∧ Below w.heap.size w w' := by
  have HI := hide h
  have HS := hide hs
  have HW := hide hw
  obtain ⟨a, cap, rfl, hcap, hm, _⟩ := h
  unfold maxLen at hm
  clear hs hw
  go_enter Tryd.func11, Tryd.ntmps11
  go_wp2
  go_loopw [3, 4] (fun sv iv wr => ∃ k : Nat, k ≤ zs.length ∧ iv = .int .i64 k ∧ sv = .string (txN zs k) ∧ Below w.heap.size w wr) (fun _ iv _ => zs.length - (intOf iv).toNat)
  case atStart => exact ⟨0, Nat.zero_le _, rfl, rfl, Below.refl _ _⟩
  case round =>
    obtain ⟨k, hk, rfl, rfl, hb⟩ := hrel
    have HB := hide hb
    clear hb
    by_cases hlt : k < zs.length
    · obtain ⟨b, off, rfl, sb, sm, sl, sc, k1, k2, k3⟩ := (HI.out.below HB.out).at hlt
      have RX := hide k3
      have tsz := txN_small (k := k) (by omega) HW.out
      have isz : (itxt (zs.getD k 0)).size ≤ 65536 := by have h1 := txN_step zs k; have h2 := txN_small (zs := zs) (k := k + 1) (by omega) HW.out; omega
      have c0 := k1.out
      have c1 := k2.out
      have HT : Hid (txN zs (k + 1) = (if k = 0 then txN zs k else txN zs k ++ ⟨#[32]⟩) ++ itxt (zs.getD k 0)) := hide rfl
      obtain ⟨tx, htx⟩ : ∃ tx, tx = txN zs k := ⟨_, rfl⟩
      rw [← htx] at HT tsz
      rw [← htx]
      clear htx k1 k2 k3
      obtain ⟨it, hit⟩ : ∃ it, it = itxt (zs.getD k 0) := ⟨_, rfl⟩
      have HIT := hide hit
      rw [← hit] at HT isz
      clear hit
      by_cases h0 : k = 0
      · have hk0 : ¬ (0 : Int) < (k : Int) := by omega
        rw [if_pos h0] at HT
        clear h0
        go_wp2_with fail
        refine (rtext2_any _ _ _ RX.out (HS.out _)).mono ?_
        rintro e w2 ⟨rfl, hb⟩
        rw [← HIT.out]
        replace HB := hide (HB.out.trans (hb.mono HB.out.size))
        clear hb c0 c1
        go_wp2
        go_roundw
        case rel => exact ⟨k + 1, by omega, by go_num, by rw [HT.out], HB.out⟩
        case measure => simp [intOf]; omega
      · have hk0 : (0 : Int) < (k : Int) := by omega
        rw [if_neg h0] at HT
        clear h0
        go_wp2_with fail
        refine (rtext2_any _ _ _ RX.out (HS.out _)).mono ?_
        rintro e w2 ⟨rfl, hb⟩
        rw [← HIT.out]
        replace HB := hide (HB.out.trans (hb.mono HB.out.size))
        clear hb c0 c1
        go_wp2
        go_roundw
        case rel => exact ⟨k + 1, by omega, by go_num, by rw [HT.out], HB.out⟩
        case measure => simp [intOf]; omega
    · have e : k = zs.length := by omega
      subst e
      have TE := hide (txN_end zs)
      have tsz := txN_small (zs := zs) (Nat.le_refl _) HW.out
      obtain ⟨tx, htx⟩ : ∃ tx, tx = txN zs zs.length := ⟨_, rfl⟩
      rw [← htx] at TE tsz
      rw [← htx]
      clear htx
      go_wp2
      go_ret
      rw [TE.out]
      exact ⟨rfl, HB.out⟩
end Go.Proofs.YtdafdfgkfkanjaaDoor
