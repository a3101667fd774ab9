/- limb.timesAnd makes of a list that is its own the number times c, and d; limb.MulSmall. -/
import Derived.Test.YtgkibmigbjjnnaaDivOwn
namespace Go.Proofs.Ytgkibmigbjjnnaa
open Go.RowKit

/-- a product's state behind k limbs -/
structure TimesAt (xs : List Nat) (c d k q : Nat) (acc : List Nat) : Prop where
  len : acc.length = k
  ok : Ok acc
  q1 : q < BB
  sum : val acc + BB ^ k * q = c * val (xs.take k) + d

theorem TimesAt.zero (xs : List Nat) (c d : Nat) (hd : d < BB) : TimesAt xs c d 0 d [] := ⟨rfl, Ok.nil, hd, by simp [val]⟩

theorem TimesAt.step {xs : List Nat} {c d k q : Nat} {acc : List Nat} (h : TimesAt xs c d k q acc) (hx : lm xs k < BB) (hc : c < BB) :
    TimesAt xs c d (k + 1) ((q + lm xs k * c) / BB) (acc ++ [(q + lm xs k * c) % BB]) := by
  have hq := h.q1
  have hm := mul_bound _ _ hx hc
  refine ⟨by simp [h.len], h.ok.append (Ok.cons (Nat.mod_lt _ BB_pos) Ok.nil), ?_, ?_⟩
  · rw [Nat.div_lt_iff_lt_mul BB_pos]; unfold BB at *; omega
  · rw [take_succ_any, val_append, h.len, Nat.pow_succ]
    simp only [val, Nat.mul_zero, Nat.add_zero]
    have hs := h.sum
    have e : BB ^ k * ((q + lm xs k * c) % BB) + BB ^ k * BB * ((q + lm xs k * c) / BB) = BB ^ k * (q + lm xs k * c) := by
      rw [Nat.mul_assoc, ← Nat.mul_add, Nat.mod_add_div]
    have e2 : BB ^ k * (q + lm xs k * c) = BB ^ k * q + BB ^ k * (lm xs k * c) := Nat.mul_add _ _ _
    have e3 : c * (val (xs.take k) + BB ^ k * lm xs k) = c * val (xs.take k) + BB ^ k * (lm xs k * c) := by
      rw [Nat.mul_add, Nat.mul_left_comm, Nat.mul_comm c (lm xs k)]
    omega

theorem drop_set (acc xs : List Nat) (k y : Nat) (hl : acc.length = k) (hk : k < xs.length) : (acc ++ xs.drop k).set k y = (acc ++ [y]) ++ xs.drop (k + 1) := by
  rw [List.set_append_right _ _ (by omega), hl, Nat.sub_self, List.drop_eq_getElem_cons hk, List.set_cons_zero, List.append_assoc]
  rfl

theorem lm_append_right (xs ys : List Nat) (i : Nat) (h : xs.length ≤ i) : lm (xs ++ ys) i = lm ys (i - xs.length) := by
  simp [lm, List.getElem?_append_right h]
theorem lm_drop (xs : List Nat) (k i : Nat) : lm (xs.drop k) i = lm xs (k + i) := by simp [lm, List.getElem?_drop]

theorem times_next {w wr : World} {base g c d k q cap : Nat} {xs acc : List Nat} {s : Int} (hat : TimesAt xs c d k q acc) (hx : Ok xs) (hc : c < BB) (hk : k < xs.length)
    (hrow : RowC wr base g xs.length cap (acc ++ xs.drop k)) (hbel : Below base w wr ∧ w.grownBy wr (some g)) (hs : s = ((q + lm xs k * c : Nat) : Int)) :
    ∃ (k' q' : Nat) (acc' : List Nat), k' ≤ xs.length ∧ Value.int .i64 (↑k + 1) = .int .i64 k' ∧ Value.int .u64 (s / 4294967296) = .int .u64 q' ∧ TimesAt xs c d k' q' acc' ∧
      RowC (wr.setCell ⟨g, k, none⟩ (.int .u32 (s % 4294967296))) base g xs.length cap (acc' ++ xs.drop k') ∧ Below base w (wr.setCell ⟨g, k, none⟩ (.int .u32 (s % 4294967296))) ∧ w.grownBy (wr.setCell ⟨g, k, none⟩ (.int .u32 (s % 4294967296))) (some g) := by
  have e1 : s / 4294967296 = (((q + lm xs k * c) / BB : Nat) : Int) := by subst hs; unfold BB; omega
  have e2 : s % 4294967296 = (((q + lm xs k * c) % BB : Nat) : Int) := by subst hs; unfold BB; omega
  refine ⟨k + 1, _, _, hk, by go_num, by rw [e1], hat.step (hx.at k) hc, ?_, hbel.1.setCell hrow.ge _, gb_set hbel.2 _ _⟩
  rw [e2]
  have := hrow.set k ((q + lm xs k * c) % BB)
  rw [drop_set acc xs k _ hat.len hk] at this
  exact this

theorem times_end {xs acc : List Nat} {c d q : Nat} (hat : TimesAt xs c d xs.length q acc) : val (acc ++ [q]) = c * val xs + d ∧ Ok (acc ++ [q]) := by
  refine ⟨?_, hat.ok.append (Ok.cons hat.q1 Ok.nil)⟩
  have := hat.sum
  rw [List.take_length] at this
  rw [val_append, hat.len]; simp only [val, Nat.mul_zero, Nat.add_zero]; exact this

set_option maxRecDepth 100000 in
set_option maxHeartbeats 1000000 in
theorem timesAnd_any (v : Value) (xs : List Nat) (c d base : Nat) (w : World) (h : Own w base v xs) (ho : Ok xs) (hc : c < 4294967296) (hd : d < 4294967296) (hlen : xs.length ≤ 1000000000) (hbase : base ≤ w.heap.size) :
    Calls Try.prog 98 #[v, .int .u32 c, .int .u32 d] w fun e w' => ∃ v', e = .returned v' ∧ Own w' base v' (lim (c * val xs + d)) ∧ Below base w w' := by
  obtain ⟨i0, hi, hz0, hz1, hz2⟩ := info_parts Try.info84
  have HCB : Hid (c < BB) := hc
  have HOK := hide ho
  have fin : ∀ (wr : World) (vo : Value) (acc : List Nat) (q : Nat), Own wr base vo acc → Below base w wr → val (acc ++ [q]) = c * val xs + d → Ok (acc ++ [q]) → ∀ (v6 : Value) (w6 : World) (o : Obj),
      w6.ownsRow base 84 1 v6 (acc.length + 1) (ints acc ++ [Value.int .u32 (q : Int)]) → (wr.alloc o).grownBy w6 vo.ownBlock → Own w6 base v6 (acc ++ [q]) ∧ Nums w6 v6 (acc ++ [q]) ∧ Below base w w6 := by
    intro wr vo acc q hO hB _ hok v6 w6 o hown hgrow
    have hO6 : Own w6 base v6 (acc ++ [q]) := by
      have e1 : ints acc ++ [Value.int .u32 (q : Int)] = ints (acc ++ [q]) := by simp [ints]
      rw [e1] at hown
      show World.ownsRow _ _ _ _ _ _ _; simpa using hown
    exact ⟨hO6, hO6.nums hok, (hB.alloc (Nat.le_trans hbase hB.size) o).grown hgrow (by have := hB.size; simp; omega) (fun k hk => (hO.lt k hk).1)⟩
  have FIN := hide fin
  clear fin
  rcases h.2 with ⟨rfl, h0⟩ | ⟨g, cap, cur, rfl, hbg, hg, hnc, hcm, hcs, ht⟩
  · have : xs = [] := List.eq_nil_of_length_eq_zero h0
    subst this
    have HE := hide (times_end (TimesAt.zero [] c d hd))
    clear h h0
    go_enter Try.func98, Try.ntmps98
    go_wp2
    refine wp_loop_rounds 1 ?_
    rw [rounds_succ]
    go_wp2_with (at_builtin; refine wpList_append_own _ rfl _ _ 23 rfl base 84 i0 (.int .u32 0) 1 4 Try.underlying23 hi hz0 hz1 hz2 rfl (by decide) _ _ _ rfl (World.ownsRow_nil _ _ _ _) ⟨_, 0, none⟩ 1 1 [.int .u32 (d : Int)] rfl rfl ?_ ?_ ?_ ?_ ?_ ?_)
    · intro i u hi'
      match i, hi' with
      | 0, hi' => simp at hi'; subst hi'; simp [Addr.add]
    · intro u hu; simp at hu; subst hu; rfl
    · unfold maxLen; omega
    · omega
    · simp; omega
    · intro v6 w6 hown6 hgrow6 _
      obtain ⟨hO6, hN6, hB6⟩ := FIN.out w _ [] d (World.ownsRow_nil _ _ _ _) (Below.refl _ _) HE.out.1 HE.out.2 v6 w6 _ hown6 hgrow6
      have HO6 := hide hO6
      have HB6 := hide hB6
      clear hown6 hgrow6 hO6 hB6
      go_wp2_with fail
      refine (trim_any _ _ _ hN6).mono ?_
      rintro e w7 ⟨v7, rfl, rfl, hN7, hcut⟩
      have HO7 := hide (HO6.out.cut _ (lim_val_length HE.out.2) hcut)
      clear hcut hN7
      go_wp2
      go_ret
      refine ⟨_, rfl, ?_, HB6.out⟩
      have := HO7.out
      rw [lim_prefix HE.out.2, HE.out.1] at this
      exact this
  · have hrow : RowC w base g xs.length cap xs := h
    clear h hg hcs ht cur
    unfold maxLen at hcm
    go_enter Try.func98, Try.ntmps98
    go_wp2
    go_loopw [7, 14] (fun qv iv wr => ∃ (k q : Nat) (acc : List Nat), k ≤ xs.length ∧ iv = .int .i64 k ∧ qv = .int .u64 q ∧ TimesAt xs c d k q acc ∧ RowC wr base g xs.length cap (acc ++ xs.drop k) ∧ Below base w wr ∧ w.grownBy wr (some g)) (fun _ iv _ => xs.length - (intOf iv).toNat)
    case atStart => exact ⟨0, d, [], Nat.zero_le _, rfl, rfl, TimesAt.zero xs c d hd, by simpa using hrow, Below.refl _ _, World.grownBy.refl _ _⟩
    case round =>
      clear hrow
      obtain ⟨k, q, acc, hk, rfl, rfl, hat, hrow, hbel⟩ := hrel
      have hq := hat.q1
      unfold BB at hq
      by_cases hlt : k < xs.length
      · have hxb := HOK.out.at k
        obtain ⟨hm0, hm1⟩ := mul_boundI _ _ hxb HCB.out
        have hf := hrow.free k
        have hcl := hrow.cell (by rw [List.length_append, List.length_drop, hat.len]; omega) k (by omega)
        rw [lm_append_right _ _ _ (by rw [hat.len]; omega), hat.len, Nat.sub_self, lm_drop, Nat.add_zero] at hcl
        unfold BB at hxb
        have HAT := hide hat
        have HR := hide hrow
        have HBL := hide hbel
        clear hat hrow hbel
        go_wp2
        refine ⟨times_next HAT.out HOK.out HCB.out hlt HR.out HBL.out (by rw [Int.natCast_add, Int.natCast_mul]), ?_⟩
        simp [intOf]; omega
      · have hkL : k = xs.length := by omega
        subst hkL
        have HE := hide (times_end hat)
        have hal := hat.len
        have HAL := hide hal
        rw [List.drop_length, List.append_nil] at hrow
        have hO : Own wr base (.slice (some ⟨g, 0, none⟩) xs.length cap) acc := by unfold Own; rw [hal]; exact hrow
        have HO := hide hO
        have HB := hide hbel.1
        have hsz := hbel.1.size
        clear hat hrow hbel hO hal
        go_wp2_with (at_builtin; refine wpList_append_own _ rfl _ _ 23 rfl base 84 i0 (.int .u32 0) 1 4 Try.underlying23 hi hz0 hz1 hz2 rfl (by decide) _ _ _ rfl (World.ownsRow.alloc HO.out _) ⟨_, 0, none⟩ 1 1 [.int .u32 (q : Int)] rfl rfl ?_ ?_ ?_ ?_ ?_ ?_)
        · intro i u hi'
          match i, hi' with
          | 0, hi' => simp at hi'; subst hi'; simp [Addr.add]
        · intro u hu; simp at hu; subst hu; rfl
        · have := HAL.out; unfold maxLen; omega
        · have := HAL.out; omega
        · simp; omega
        · intro v6 w6 hown6 hgrow6 _
          obtain ⟨hO6, hN6, hB6⟩ := FIN.out wr _ acc q HO.out HB.out HE.out.1 HE.out.2 v6 w6 _ hown6 hgrow6
          have HO6 := hide hO6
          have HB6 := hide hB6
          clear hown6 hgrow6 hO6 hB6
          go_wp2_with fail
          refine (trim_any _ _ _ hN6).mono ?_
          rintro e w7 ⟨v7, rfl, rfl, hN7, hcut⟩
          have HO7 := hide (HO6.out.cut _ (lim_val_length HE.out.2) hcut)
          clear hcut hN7
          go_wp2
          go_ret
          refine ⟨_, rfl, ?_, HB6.out⟩
          have := HO7.out
          rw [lim_prefix HE.out.2, HE.out.1] at this
          exact this

end Go.Proofs.Ytgkibmigbjjnnaa
