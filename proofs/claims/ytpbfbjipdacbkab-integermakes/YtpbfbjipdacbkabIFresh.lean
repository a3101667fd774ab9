/- Numbers whose limbs lie in new memory: made, Make, and the document's norm and Make (made by program out of the texts that prove them). -/
import Derived.Test.YtpbfbjipdacbkabR2Law
namespace Go.Proofs.Ytpbfbjipdacbkab
open Go.RowKit

/-- what a slice lies over is no elder than T -/
def FreshV (T : Nat) : Value → Prop
  | .slice (some ad) _ _ => T ≤ ad.block
  | _ => True
def FreshI (T : Nat) (v : Value) : Prop := ∃ s l, v = .agg #[.bool s, l] ∧ FreshV T l
theorem FreshV.mono {S T : Nat} {v : Value} (h : FreshV T v) (hs : S ≤ T) : FreshV S v := by
  unfold FreshV at *
  split <;> simp_all
  omega
theorem FreshI.mono {S T : Nat} {v : Value} (h : FreshI T v) (hs : S ≤ T) : FreshI S v := by
  obtain ⟨s, l, rfl, hl⟩ := h
  exact ⟨s, l, rfl, hl.mono hs⟩
theorem Own.lower {w : World} {base base' : Nat} {v : Value} {xs : List Nat} (h : Own w base v xs) (hb : base' ≤ base) : Own w base' v xs := by
  refine ⟨h.1, ?_⟩
  rcases h.2 with k | ⟨g, cap, cur, e, hg, r⟩
  · exact .inl k
  · exact .inr ⟨g, cap, cur, e, Nat.le_trans hb hg, r⟩
theorem Own.fresh {w : World} {base : Nat} {v : Value} {xs : List Nat} (h : Own w base v xs) : FreshV base v := by
  rcases h.2 with ⟨rfl, _⟩ | ⟨g, cap, cur, rfl, hb, _⟩
  · trivial
  · exact hb

set_option maxRecDepth 100000 in
theorem made_fresh (b : Bool) (n : Nat) (l : Value) (w : World) (T : Nat) (h : Nums w l (lim n)) (hf : FreshV T l) :
    Calls Try.prog 66 #[.bool b, l] w fun e w' => ∃ v, e = .returned v ∧ IntAt w' v (sg b n) ∧ FreshI T v ∧ Below w.heap.size w w' := by
  have HN := hide h
  have HFR := hide hf
  clear hf
  obtain ⟨_, a, cap, rfl, hl, hm, _⟩ := h
  unfold maxLen at hm
  by_cases h0 : n = 0
  · subst h0
    simp only [lim_zero, List.length_nil] at *
    go_enter Try.func66, Try.ntmps66
    go_wp2
    refine ret_int rfl w.heap.size _ _ _ _ rfl (heap_alloc_new _ _) rfl ?_
    exact ⟨_, rfl, by rw [sg_zero, ← sg_zero false]; exact IntAt.mk (by rw [lim_zero]; exact Nums.nil_mk _ _ _ (Nat.zero_le _)) fun _ => rfl, ⟨_, _, rfl, trivial⟩, below_alloc _ _⟩
  · have hp : 0 < (lim n).length := by rw [lim_pos (by omega)]; simp
    go_enter Try.func66, Try.ntmps66
    go_wp2
    refine ret_int rfl w.heap.size _ _ _ _ rfl (heap_alloc_new _ _) rfl ?_
    exact ⟨_, rfl, IntAt.mk (HN.out.below (below_alloc _ _)) fun h => absurd h h0, ⟨_, _, rfl, HFR.out⟩, below_alloc _ _⟩

set_option maxRecDepth 100000 in
set_option maxHeartbeats 400000 in
theorem make_fresh (b : Bool) (l : Value) (xs : List Nat) (w : World) (h : Nums w l xs) (hl : xs.length ≤ 1000000000) :
    Calls Try.prog 60 #[.bool b, l] w fun e w' => ∃ v, e = .returned v ∧ IntAt w' v (sg b (val xs)) ∧ FreshI w.heap.size v ∧ Below w.heap.size w w' := by
  go_enter Try.func60, Try.ntmps60
  go_wp2_with fail
  refine (norm_any _ xs _ (h.below (below_alloc _ _)) hl).mono ?_
  rintro e w1 ⟨v1, rfl, hO1, n1, hb1⟩
  have HFV := hide (hO1.fresh.mono (S := w.heap.size) (by simp))
  clear hO1
  have HX := hide ((Box.new w _ _).step hb1)
  have HB := hide ((below_alloc w _).trans (hb1.mono (by simp)))
  clear hb1
  go_wp2_with fail
  refine (made_fresh b (val xs) v1 _ w.heap.size n1 HFV.out).mono ?_
  rintro e w2 ⟨v, rfl, ⟨b', n', a', c', rfl, hn', he, h0⟩, hfr, hb2⟩
  have HFI := hide hfr
  clear hfr
  replace HX := hide (HX.out.step hb2)
  replace HB := hide (HB.out.trans (hb2.mono HB.out.size))
  have hc0 := HX.out.cell0
  have hc1 := HX.out.cell1
  have hf0 := HX.out.free 0
  have hf1 := HX.out.free 1
  clear hb2
  go_wp2
  refine ret_int rfl w.heap.size _ _ _ _ rfl ((HX.out.set0 _).set1 _) rfl ?_
  exact ⟨_, rfl, ⟨b', n', a', c', rfl, HX.out.keeps (by simp) (by simp) _ _ _ _ hn', he, h0⟩, HFI.out, (HB.out.setCell (p := ⟨w.heap.size, 0, none⟩) (Nat.le_refl _) _).setCell (p := ⟨w.heap.size, 1, none⟩) (Nat.le_refl _) _⟩

set_option maxRecDepth 100000 in
set_option maxHeartbeats 1000000 in
theorem rnorm2_fresh (s : Bool) (v : Value) (xs : List Nat) (w : World) (h : Nums w v xs) (hd : D.Ok xs) (T : Nat) (hf : FreshV T v) :
    Calls Try.prog 71 #[.bool s, v] w fun e w' => ∃ v', e = .returned v' ∧ RInt w' v' (sg s (D.val xs)) ∧ FreshI T v' ∧ Below w.heap.size w w' := by
  have hN : Hid (Nums w v xs) := h
  have HD := hide hd
  have HFR := hide hf
  clear hf
  rcases h.cases with ⟨rfl, a, cap, rfl, hcap⟩ | ⟨hpos, b, off, cap, rfl, hl, hm, hb, hc⟩
  · clear h hd
    unfold maxLen at hcap
    go_enter Try.func71, Try.ntmps71
    go_wp2
    refine wp_loop_rounds 1 ?_
    rw [rounds_succ]
    cases s <;> cases a
    all_goals
      go_wp2
      refine ret_ref rfl w.heap.size _ _ _ _ rfl (heap_alloc_new _ _) rfl ?_
      exact ⟨_, rfl, dtrim_end (k := 0) hN.out HD.out (Nat.zero_le _) rfl (.inl rfl) (below_alloc w _) _ (by simp), ⟨_, _, rfl, HFR.out⟩, below_alloc _ _⟩
  · clear h hd
    have hc' : ∀ i, i < xs.length → (w.alloc (.cells #[.bool false, .slice none 0 0] 57)).cell? ⟨b, off + i, none⟩ = some (.int .u32 (lm xs i : Nat)) := fun i hi => by
      rw [(below_alloc w _).cell (World.block_lt_of_cell? w _ (hc i hi))]; exact hc i hi
    clear hc
    unfold maxLen at hm
    go_enter Try.func71, Try.ntmps71
    go_wp2
    go_loopw [5] (fun n wr => ∃ k : Nat, k ≤ xs.length ∧ n = .int .i64 k ∧ D.val (xs.take k) = D.val xs ∧ wr = w.alloc (.cells #[.bool false, .slice none 0 0] 57)) (fun n _ => (intOf n).toNat)
    case atStart => exact ⟨xs.length, Nat.le_refl _, rfl, by rw [List.take_length], rfl⟩
    case round =>
      obtain ⟨k, hk, rfl, hv, rfl⟩ := hrel
      have HV : Hid (D.val (xs.take k) = D.val xs) := hv
      clear hv
      cases k with
      | zero =>
        cases s with
        | true =>
          go_wp2
          refine ret_ref rfl w.heap.size _ _ _ _ rfl (heap_alloc_new _ _) rfl ?_
          exact ⟨_, rfl, dtrim_end hN.out HD.out (Nat.zero_le _) HV.out (.inl rfl) (below_alloc _ _) _ (by simp), ⟨_, _, rfl, HFR.out⟩, below_alloc _ _⟩
        | false =>
          go_wp2
          refine ret_ref rfl w.heap.size _ _ _ _ rfl (heap_alloc_new _ _) rfl ?_
          exact ⟨_, rfl, dtrim_end hN.out HD.out (Nat.zero_le _) HV.out (.inl rfl) (below_alloc _ _) _ (by simp), ⟨_, _, rfl, HFR.out⟩, below_alloc _ _⟩
      | succ k =>
        have hck := hc' k (by omega)
        by_cases hz : lm xs k = 0
        · have hz' : (((lm xs k : Nat) : Int) == 0) = true := by simpa using hz
          have HZ : Hid (lm xs k = 0) := hz
          clear hz
          go_wp2
          go_roundw
          case rel => exact ⟨k, by omega, by go_num, dtrim_step hk HV.out HZ.out, trivial⟩
          case measure => simp [intOf]
        · have hz' : (((lm xs k : Nat) : Int) == 0) = false := by simpa using hz
          cases s with
          | true =>
            go_wp2
            refine ret_ref rfl w.heap.size _ _ _ _ rfl (heap_alloc_new _ _) rfl ?_
            exact ⟨_, rfl, dtrim_end hN.out HD.out hk HV.out (.inr hz) (below_alloc _ _) _ (by simp), ⟨_, _, rfl, HFR.out⟩, below_alloc _ _⟩
          | false =>
            go_wp2
            refine ret_ref rfl w.heap.size _ _ _ _ rfl (heap_alloc_new _ _) rfl ?_
            exact ⟨_, rfl, dtrim_end hN.out HD.out hk HV.out (.inr hz) (below_alloc _ _) _ (by simp), ⟨_, _, rfl, HFR.out⟩, below_alloc _ _⟩

set_option maxRecDepth 100000 in
set_option maxHeartbeats 2000000 in
theorem rmake_fresh (s : Bool) (v : Value) (xs : List Nat) (w : World) (h : Nums w v xs) (hl : xs.length ≤ 1000000000) :
    Calls Try.prog 47 #[.bool s, v] w fun e w' => ∃ v', e = .returned v' ∧ RInt w' v' (sg s (val xs)) ∧ FreshI w.heap.size v' ∧ Below w.heap.size w w' := by
  obtain ⟨i0, hi, hz0, hz1, hz2⟩ := info_parts Try.info62
  have HN := hide h
  have HOK := hide h.ok
  obtain ⟨_, a, cap, rfl, hlc, hm, _⟩ := h
  unfold maxLen at hm
  go_enter Try.func47, Try.ntmps47
  go_wp2
  go_loopw [5, 6] (fun dv iv wr => ∃ k : Nat, k ≤ xs.length ∧ iv = .int .i64 k ∧ Own wr (w.heap.size + 1) dv (two (xs.take k)) ∧ Below (w.heap.size + 1) (w.alloc (.cells #[.bool false, .slice none 0 0] 57)) wr) (fun _ iv _ => xs.length - (intOf iv).toNat)
  case atStart => exact ⟨0, Nat.zero_le _, rfl, World.ownsRow_nil _ _ _ _, Below.refl _ _⟩
  case round =>
    obtain ⟨k, hk, rfl, hO, hbel⟩ := hrel
    have HO := hide hO
    have HBE := hide hbel
    clear hO hbel
    by_cases hlt : k < xs.length
    · have HNr := hide (HN.out.below ((below_alloc w _).trans (HBE.out.mono (Nat.le_succ _))))
      obtain ⟨blk, off, rfl, hck⟩ : ∃ blk off, a = some ⟨blk, off, none⟩ ∧ wr.cell? ⟨blk, off + k, none⟩ = some (.int .u32 (lm xs k : Nat)) := by
        obtain ⟨_, a', c', he, _, _, h3⟩ := HNr.out
        simp only [Value.slice.injEq] at he
        obtain ⟨rfl, _, rfl⟩ := he
        obtain ⟨b, off, rfl, hc⟩ := h3 (ne_nil hlt)
        exact ⟨b, off, rfl, hc k hlt⟩
      have hxk : lm xs k < 4294967296 := HOK.out.at k
      have HCW : Hid (∀ W, Below (w.heap.size + 1) (w.alloc (.cells #[.bool false, .slice none 0 0] 57)) W → W.cell? ⟨blk, off + k, none⟩ = some (.int .u32 (lm xs k : Nat))) := hide fun W hB => by
        obtain ⟨_, a', c', he, _, _, h3⟩ := HN.out
        simp only [Value.slice.injEq] at he
        obtain ⟨e1, _, rfl⟩ := he
        obtain ⟨b, off', e2, hc⟩ := h3 (ne_nil hlt)
        subst e2
        simp only [Option.some.injEq, Addr.mk.injEq, and_true] at e1
        obtain ⟨rfl, rfl⟩ := e1
        have h0 := hc k hlt
        have hb0 := World.block_lt_of_cell? w _ h0
        rw [hB.cell (by exact Nat.lt_succ_of_lt hb0), (below_alloc w _).cell hb0]
        exact h0
      have HTL : Hid ((two (xs.take k)).length ≤ 2000000000) := hide (by rw [two_length, List.length_take]; omega)
      clear hck HNr
      go_wp2_with fail
      refine wp_calm (fun w' => w'.cell? ⟨blk, off + k, none⟩ = some (.int .u32 (lm xs k : Nat))) (fun _ => true) 14 #[false, false, false, false, false, false, false, false, false, false, false, false, false, false] (by kernel_rfl) rfl rfl ?_
      have HF := hide (HCW.out _ HBE.out.drew)
      refine Calm.take (i := 0) (v := ?_) (a' := ?_) (l' := #[true, false, false, false, false, false, false, false, false, false, false, false, false, false]) (d := some 13) rfl (by kernel_rfl) (by kernel_rfl) (by kernel_rfl) (by kernel_rfl) (fun _ _ _ h => h) HF.out rfl ?_ rfl rfl ?_ ?_
      rotate_left
      · intro w' hF; go_simp; try rfl
      rotate_left
      · simp only [Act.put]; exact rfl
      refine Calm.take (i := 1) (v := ?_) (a' := ?_) (l' := #[true, true, false, false, false, false, false, false, false, false, false, false, false, false]) (d := some 14) rfl (by kernel_rfl) (by kernel_rfl) (by kernel_rfl) (by kernel_rfl) (fun _ _ _ h => h) HF.out rfl ?_ rfl rfl ?_ ?_
      rotate_left
      · intro w' hF; go_simp; try rfl
      rotate_left
      · simp only [Act.put]; exact rfl
      refine Calm.take (i := 2) (v := ?_) (a' := ?_) (l' := #[true, true, true, false, false, false, false, false, false, false, false, false, false, false]) (d := some 15) rfl (by kernel_rfl) (by kernel_rfl) (by kernel_rfl) (by kernel_rfl) (fun _ _ _ h => h) HF.out rfl ?_ rfl rfl ?_ ?_
      rotate_left
      · intro w' hF; go_simp; try rfl
      rotate_left
      · simp only [Act.put]; exact rfl
      refine Calm.take (i := 3) (v := ?_) (a' := ?_) (l' := #[true, true, true, true, false, false, false, false, false, false, false, false, false, false]) (d := some 16) rfl (by kernel_rfl) (by kernel_rfl) (by kernel_rfl) (by kernel_rfl) (fun _ _ _ h => h) HF.out rfl ?_ rfl rfl ?_ ?_
      rotate_left
      · intro w' hF; go_simp; try rfl
      rotate_left
      · simp only [Act.put]; exact rfl
      refine Calm.take (i := 4) (v := ?_) (a' := ?_) (l' := #[true, true, true, true, true, false, false, false, false, false, false, false, false, false]) (d := some 17) rfl (by kernel_rfl) (by kernel_rfl) (by kernel_rfl) (by kernel_rfl) (fun _ _ _ h => h) HF.out rfl ?_ rfl rfl ?_ ?_
      rotate_left
      · intro w' hF; go_simp; try rfl
      rotate_left
      · simp only [Act.put]; exact rfl
      refine Calm.take (i := 5) (v := ?_) (a' := ?_) (l' := #[true, true, true, true, true, true, false, false, false, false, false, false, false, false]) (d := some 18) rfl (by kernel_rfl) (by kernel_rfl) (by kernel_rfl) (by kernel_rfl) (fun _ _ _ h => h) HF.out rfl ?_ rfl rfl ?_ ?_
      rotate_left
      · intro w' hF; go_simp; try rfl
      rotate_left
      · simp only [Act.put]; exact rfl
      refine Calm.take (i := 6) (v := ?_) (a' := ?_) (l' := #[true, true, true, true, true, true, true, false, false, false, false, false, false, false]) (d := some 19) rfl (by kernel_rfl) (by kernel_rfl) (by kernel_rfl) (by kernel_rfl) (fun _ _ _ h => h) HF.out rfl ?_ rfl rfl ?_ ?_
      rotate_left
      · intro w' hF; go_simp; try rfl
      rotate_left
      · simp only [Act.put]; exact rfl
      refine Calm.take (i := 7) (v := ?_) (a' := ?_) (l' := #[true, true, true, true, true, true, true, true, false, false, false, false, false, false]) (d := some 20) rfl (by kernel_rfl) (by kernel_rfl) (by kernel_rfl) (by kernel_rfl) (fun _ _ _ h => h) HF.out rfl ?_ rfl rfl ?_ ?_
      rotate_left
      · intro w' hF; go_simp; try rfl
      rotate_left
      · simp only [Act.put]; exact rfl
      refine Calm.take (i := 8) (v := ?_) (a' := ?_) (l' := #[true, true, true, true, true, true, true, true, true, false, false, false, false, false]) (d := some 21) rfl (by kernel_rfl) (by kernel_rfl) (by kernel_rfl) (by kernel_rfl) (fun _ _ _ h => h) HF.out rfl ?_ rfl rfl ?_ ?_
      rotate_left
      · intro w' hF; go_simp; try rfl
      rotate_left
      · simp only [Act.put]; exact rfl
      refine Calm.take (i := 9) (v := ?_) (a' := ?_) (l' := #[true, true, true, true, true, true, true, true, true, true, false, false, false, false]) (d := some 22) rfl (by kernel_rfl) (by kernel_rfl) (by kernel_rfl) (by kernel_rfl) (fun _ _ _ h => h) HF.out rfl ?_ rfl rfl ?_ ?_
      rotate_left
      · intro w' hF; go_simp; try rfl
      rotate_left
      · simp only [Act.put]; exact rfl
      refine Calm.take (i := 10) (v := ?_) (a' := ?_) (l' := #[true, true, true, true, true, true, true, true, true, true, true, false, false, false]) (d := some 23) rfl (by kernel_rfl) (by kernel_rfl) (by kernel_rfl) (by kernel_rfl) (fun _ _ _ h => h) HF.out rfl ?_ rfl rfl ?_ ?_
      rotate_left
      · intro w' hF; go_simp; try rfl
      rotate_left
      · simp only [Act.put]; exact rfl
      refine Calm.one (i := 11) (l' := #[true, true, true, true, true, true, true, true, true, true, true, true, false, false]) (by kernel_rfl) rfl rfl rfl fun K hK => ?_
      go_simp
      refine hK _ _ (fun _ => HCW.out _ (HBE.out.alloc (by have := HBE.out.size; simpa using this) _).drew) ?_
      clear hK K
      rw [make_lo _ hxk, make_hi _ hxk]
      refine Calm.one (i := 12) (l' := #[true, true, true, true, true, true, true, true, true, true, true, true, true, false]) (by kernel_rfl) rfl rfl rfl fun K hK => ?_
      refine oper_append_own (.tmp 13) (.tmp 24) 25 rfl (w.heap.size + 1) 62 i0 (.int .u32 0) 1 4 Try.underlying25 hi hz0 hz1 hz2 rfl (by decide) _ _ _ rfl (World.ownsRow.alloc HO.out _) ⟨wr.heap.size, 0, none⟩ 2 2 [.int .u32 ((lm xs k % 65536 : Nat) : Int), .int .u32 ((lm xs k / 65536 : Nat) : Int)] rfl rfl ?_ ?_ ?_ ?_ ?_ ?_
      · intro i u hi'
        match i, hi' with
        | 0, hi' => simp at hi'; subst hi'; simp [Addr.add]
        | 1, hi' => simp at hi'; subst hi'; simp [Addr.add]
      · intro u hu; simp at hu; rcases hu with rfl | rfl <;> rfl
      · have := HTL.out; unfold maxLen; omega
      · have := HTL.out; omega
      · have := HBE.out.size; simp at this ⊢; omega
      intro v' w2 hown hgrow
      obtain ⟨hO2, hB2⟩ := make_next (by have := HBE.out.size; simpa using this) HO.out HBE.out hown hgrow
      have HO2 := hide hO2
      have HB2 := hide hB2
      clear hown hgrow hO2 hB2
      refine hK _ _ (fun _ => HCW.out _ HB2.out) ?_
      clear hK K
      simp only [Act.put]
      have HF := hide (HCW.out _ HB2.out)
      refine Calm.take (i := 13) (v := ?_) (a' := ?_) (l' := #[true, true, true, true, true, true, true, true, true, true, true, true, true, true]) (d := some 5) rfl (by kernel_rfl) (by kernel_rfl) (by kernel_rfl) (by kernel_rfl) (fun _ _ _ h => h) HF.out rfl ?_ rfl rfl ?_ ?_
      rotate_left
      · intro w' hF; go_simp; try rfl
      rotate_left
      · simp only [Act.put]; exact rfl
      refine Calm.done (by kernel_rfl) ?_
      go_wp2
      go_roundw
      case rel => exact ⟨k + 1, by omega, by go_num, by rw [take_snoc xs k hlt, two_snoc]; exact HO2.out, HB2.out⟩
      case measure => simp [intOf]; omega
    · have e : k = xs.length := by omega
      subst e
      have HR := hide ((Box2.new w _ _ _).below HBE.out (Nat.lt_succ_self _))
      have HO1 := hide HO.out
      rw [List.take_length] at HO1
      have HNd := hide (HO1.out.nums (dok (two_ok HOK.out)))
      have HFV := hide (HO1.out.fresh.mono (Nat.le_succ w.heap.size))
      have HB1 := hide ((below_alloc w _).trans (HBE.out.mono (Nat.le_succ _)))
      clear HO HBE
      go_wp2_with fail
      refine (rnorm2_fresh s _ (two xs) _ HNd.out (two_ok HOK.out) w.heap.size HFV.out).mono ?_
      rintro e w2 ⟨v2, rfl, hr2, hfr, hb2⟩
      have HFI := hide hfr
      clear hfr
      rw [two_val] at hr2
      obtain ⟨b', n', a', c', rfl, hn', he, h0⟩ := hr2
      replace HR := hide (HR.out.step hb2)
      replace HB1 := hide (HB1.out.trans (hb2.mono HB1.out.size))
      have hc0 := HR.out.cell0
      have hc1 := HR.out.cell1
      have hf0 := HR.out.free 0
      have hf1 := HR.out.free 1
      clear hb2
      go_wp2
      refine ret_ref rfl w.heap.size _ _ _ _ rfl ((HR.out.set0 _).set1 _) rfl ?_
      exact ⟨_, rfl, ⟨b', n', a', c', rfl, keeps2 HR.out (by simp) (by simp) _ _ _ _ hn', he, h0⟩, HFI.out, (HB1.out.setCell (p := ⟨w.heap.size, 0, none⟩) (Nat.le_refl _) _).setCell (p := ⟨w.heap.size, 1, none⟩) (Nat.le_refl _) _⟩

set_option maxRecDepth 100000 in
set_option maxHeartbeats 2000000 in
theorem of_fresh (s : Bool) (a : Option Addr) (c : Nat) (xs : List Nat) (w : World) (h : Nums w (.slice a xs.length c) xs) (hl : xs.length ≤ 1000000000) :
    Calls Try.prog 31 #[.agg #[.bool s, .slice a xs.length c]] w fun e w' => ∃ v u, e = .returned (.tuple #[v, u]) ∧ IntAt w' v (sg s (val xs)) ∧ RInt w' u (sg s (val xs)) ∧ FreshI w.heap.size v ∧ FreshI w.heap.size u ∧ Below w.heap.size w w' := by
  have HP : Hid (Box2 (((w.alloc (.cells #[.bool s, .slice a xs.length c] 55)).alloc (.cells #[.bool false, .slice none 0 0] 27)).alloc (.cells #[.bool false, .slice none 0 0] 57)) w.heap.size 55 (.bool s) (.slice a xs.length c)) := hide (((Box2.new w _ _ _).step (below_alloc _ _)).step (below_alloc _ _))
  have HQ : Hid (Box (((w.alloc (.cells #[.bool s, .slice a xs.length c] 55)).alloc (.cells #[.bool false, .slice none 0 0] 27)).alloc (.cells #[.bool false, .slice none 0 0] 57)) (w.heap.size + 1) (.bool false) (.slice none 0 0)) := hide (by
    have := Box.new (w.alloc (.cells #[.bool s, .slice a xs.length c] 55)) (.bool false) (.slice none 0 0)
    rw [World.size_alloc] at this
    exact this.step (below_alloc _ _))
  have HR : Hid (Box2 (((w.alloc (.cells #[.bool s, .slice a xs.length c] 55)).alloc (.cells #[.bool false, .slice none 0 0] 27)).alloc (.cells #[.bool false, .slice none 0 0] 57)) (w.heap.size + 1 + 1) 57 (.bool false) (.slice none 0 0)) := hide (by
    have := Box2.new ((w.alloc (.cells #[.bool s, .slice a xs.length c] 55)).alloc (.cells #[.bool false, .slice none 0 0] 27)) 57 (.bool false) (.slice none 0 0)
    rwa [World.size_alloc, World.size_alloc] at this)
  have HB : Hid (Below w.heap.size w (((w.alloc (.cells #[.bool s, .slice a xs.length c] 55)).alloc (.cells #[.bool false, .slice none 0 0] 27)).alloc (.cells #[.bool false, .slice none 0 0] 57))) := hide ((below_alloc _ _).trans (((below_alloc _ _).trans ((below_alloc _ _).mono (by simp))).mono (by simp)))
  have HN := hide (h.below HB.out)
  clear h
  go_enter Try.func31, Try.ntmps31
  go_wp2_with fail
  refine wp_calm (fun w' => Box2 w' w.heap.size 55 (.bool s) (.slice a xs.length c)) (fun _ => true) 12 #[false, false, false, false, false, false, false, false, false, false, false, false] (by kernel_rfl) rfl rfl ?_
  have HF := hide HP.out.drew
  refine Calm.take (i := 0) (v := ?_) (a' := ?_) (l' := #[true, false, false, false, false, false, false, false, false, false, false, false]) (d := some 4) rfl (by kernel_rfl) (by kernel_rfl) (by kernel_rfl) (by kernel_rfl) (fun _ _ _ h => h) HF.out rfl ?_ rfl rfl ?_ ?_
  rotate_left
  · intro w' hF; have f0 := hF.cell0; have f1 := hF.cell1; clear hF; go_simp; try rfl
  rotate_left
  · simp only [Act.put]; exact rfl
  refine Calm.take (i := 1) (v := ?_) (a' := ?_) (l' := #[true, true, false, false, false, false, false, false, false, false, false, false]) (d := some 5) rfl (by kernel_rfl) (by kernel_rfl) (by kernel_rfl) (by kernel_rfl) (fun _ _ _ h => h) HF.out rfl ?_ rfl rfl ?_ ?_
  rotate_left
  · intro w' hF; have f0 := hF.cell0; have f1 := hF.cell1; clear hF; go_simp; try rfl
  rotate_left
  · simp only [Act.put]; exact rfl
  refine Calm.take (i := 2) (v := ?_) (a' := ?_) (l' := #[true, true, true, false, false, false, false, false, false, false, false, false]) (d := some 6) rfl (by kernel_rfl) (by kernel_rfl) (by kernel_rfl) (by kernel_rfl) (fun _ _ _ h => h) HF.out rfl ?_ rfl rfl ?_ ?_
  rotate_left
  · intro w' hF; have f0 := hF.cell0; have f1 := hF.cell1; clear hF; go_simp; try rfl
  rotate_left
  · simp only [Act.put]; exact rfl
  refine Calm.take (i := 3) (v := ?_) (a' := ?_) (l' := #[true, true, true, true, false, false, false, false, false, false, false, false]) (d := some 7) rfl (by kernel_rfl) (by kernel_rfl) (by kernel_rfl) (by kernel_rfl) (fun _ _ _ h => h) HF.out rfl ?_ rfl rfl ?_ ?_
  rotate_left
  · intro w' hF; have f0 := hF.cell0; have f1 := hF.cell1; clear hF; go_simp; try rfl
  rotate_left
  · simp only [Act.put]; exact rfl
  refine Calm.take (i := 5) (v := ?_) (a' := ?_) (l' := #[true, true, true, true, false, true, false, false, false, false, false, false]) (d := some 9) rfl (by kernel_rfl) (by kernel_rfl) (by kernel_rfl) (by kernel_rfl) (fun _ _ _ h => h) HF.out rfl ?_ rfl rfl ?_ ?_
  rotate_left
  · intro w' hF; have f0 := hF.cell0; have f1 := hF.cell1; clear hF; go_simp; try rfl
  rotate_left
  · simp only [Act.put]; exact rfl
  refine Calm.take (i := 6) (v := ?_) (a' := ?_) (l' := #[true, true, true, true, false, true, true, false, false, false, false, false]) (d := some 10) rfl (by kernel_rfl) (by kernel_rfl) (by kernel_rfl) (by kernel_rfl) (fun _ _ _ h => h) HF.out rfl ?_ rfl rfl ?_ ?_
  rotate_left
  · intro w' hF; have f0 := hF.cell0; have f1 := hF.cell1; clear hF; go_simp; try rfl
  rotate_left
  · simp only [Act.put]; exact rfl
  refine Calm.take (i := 7) (v := ?_) (a' := ?_) (l' := #[true, true, true, true, false, true, true, true, false, false, false, false]) (d := some 11) rfl (by kernel_rfl) (by kernel_rfl) (by kernel_rfl) (by kernel_rfl) (fun _ _ _ h => h) HF.out rfl ?_ rfl rfl ?_ ?_
  rotate_left
  · intro w' hF; have f0 := hF.cell0; have f1 := hF.cell1; clear hF; go_simp; try rfl
  rotate_left
  · simp only [Act.put]; exact rfl
  refine Calm.take (i := 8) (v := ?_) (a' := ?_) (l' := #[true, true, true, true, false, true, true, true, true, false, false, false]) (d := some 12) rfl (by kernel_rfl) (by kernel_rfl) (by kernel_rfl) (by kernel_rfl) (fun _ _ _ h => h) HF.out rfl ?_ rfl rfl ?_ ?_
  rotate_left
  · intro w' hF; have f0 := hF.cell0; have f1 := hF.cell1; clear hF; go_simp; try rfl
  rotate_left
  · simp only [Act.put]; exact rfl
  refine Calm.one (i := 4) (l' := #[true, true, true, true, true, true, true, true, true, false, false, false]) (by kernel_rfl) rfl rfl rfl fun K hK => ?_
  go_simp
  refine (make_fresh s _ xs _ HN.out.drew hl).mono ?_
  rintro e u0 ⟨v, rfl, ⟨b1, n1, a1, c1, rfl, k1, e1, z1⟩, hfr, hb⟩
  have F1 := hide (hfr.mono HB.out.size)
  clear hfr
  have I1 : Hid (IntAt u0 (.agg #[.bool b1, .slice a1 (lim n1).length c1]) (sg s (val xs))) := ⟨b1, n1, a1, c1, rfl, k1, e1, z1⟩
  clear k1 e1 z1
  replace HF := hide (HF.out.step hb)
  replace HQ := hide (HQ.out.drew.step hb)
  replace HR := hide (HR.out.drew.step hb)
  replace HB := hide (HB.out.drew.trans (hb.mono HB.out.size))
  replace HN := hide (HN.out.drew.below hb)
  clear hb
  refine hK _ _ (fun _ => HF.out) ?_
  clear hK K
  refine Calm.one (i := 9) (l' := #[true, true, true, true, true, true, true, true, true, true, false, false]) (by kernel_rfl) rfl rfl rfl fun K hK => ?_
  go_simp
  refine (rmake_fresh s _ xs _ HN.out hl).mono ?_
  rintro e u1 ⟨v, rfl, ⟨b2, n2, a2, c2, rfl, k2, e2, z2⟩, hfr, hb⟩
  have F2 := hide (hfr.mono HB.out.size)
  clear hfr
  have I2 : Hid (RInt u1 (.agg #[.bool b2, .slice a2 (D.lim n2).length c2]) (sg s (val xs))) := ⟨b2, n2, a2, c2, rfl, k2, e2, z2⟩
  clear k2 e2 z2
  replace HF := hide (HF.out.step hb)
  replace HQ := hide (HQ.out.step hb)
  replace HR := hide (HR.out.step hb)
  replace HB := hide (HB.out.trans (hb.mono HB.out.size))
  replace I1 := hide (I1.out.below hb)
  clear hb
  refine hK _ _ (fun _ => HF.out) ?_
  clear hK K
  have hc0 := HQ.out.cell0
  have hc1 := HQ.out.cell1
  have hf0 := HQ.out.free 0
  have hf1 := HQ.out.free 1
  have hd0 := HR.out.cell0
  have hd1 := HR.out.cell1
  have hg0 := HR.out.free 0
  have hg1 := HR.out.free 1
  refine Calm.one (i := 10) (l' := #[true, true, true, true, true, true, true, true, true, true, true, false]) (by kernel_rfl) rfl rfl rfl fun K hK => ?_
  go_simp
  replace HF := hide ((HF.out.set_ne (C := w.heap.size + 1) (o := 0) (by omega) (.bool b1)).set_ne (C := w.heap.size + 1) (o := 1) (by omega) (.slice a1 (lim n1).length c1))
  refine hK _ _ (fun _ => HF.out) ?_
  clear hK K
  refine Calm.one (i := 11) (l' := #[true, true, true, true, true, true, true, true, true, true, true, true]) (by kernel_rfl) rfl rfl rfl fun K hK => ?_
  go_simp
  replace HF := hide ((HF.out.set_ne (C := w.heap.size + 1 + 1) (o := 0) (by omega) (.bool b2)).set_ne (C := w.heap.size + 1 + 1) (o := 1) (by omega) (.slice a2 (D.lim n2).length c2))
  refine hK _ _ (fun _ => HF.out) ?_
  clear hK K
  refine Calm.done (by kernel_rfl) ?_
  go_wp2
  have HQ' := hide ((HQ.out.set0 (.bool b1)).set1 (.slice a1 (lim n1).length c1))
  have HK1 := hide (HQ.out.keeps (by simp) (by simp) (.bool b1) (.slice a1 (lim n1).length c1))
  have HR' := hide ((HR.out.set_ne (C := w.heap.size + 1) (o := 0) (by omega) (.bool b1)).set_ne (C := w.heap.size + 1) (o := 1) (by omega) (.slice a1 (lim n1).length c1))
  have HK2 := hide (keeps2 HR'.out (by simp) (by simp) (.bool b2) (.slice a2 (D.lim n2).length c2))
  refine ret_both rfl (w.heap.size + 1) (w.heap.size + 1 + 1) _ _ _ _ rfl rfl ((HQ'.out.set_ne (by omega) _).set_ne (by omega) _) ((HR'.out.set0 _).set1 _) rfl ?_
  exact ⟨_, _, rfl, I1.out.keep (HK1.out.trans HK2.out), I2.out.keep (HK1.out.trans HK2.out), F1.out, F2.out, (((HB.out.setCell (p := ⟨w.heap.size + 1, 0, none⟩) (by simp) _).setCell (p := ⟨w.heap.size + 1, 1, none⟩) (by simp) _).setCell (p := ⟨w.heap.size + 1 + 1, 0, none⟩) (by simp; omega) _).setCell (p := ⟨w.heap.size + 1 + 1, 1, none⟩) (by simp; omega) _⟩

/-- a store into an elder block leaves alone what lies in new memory -/
theorem Nums.elder {w : World} {v : Value} {xs : List Nat} {T g o : Nat} (h : Nums w v xs) (hf : FreshV T v) (hg : g < T) (c : Value) : Nums (w.setCell ⟨g, o, none⟩ c) v xs := by
  obtain ⟨ho, a, cap, rfl, h1, h2, h3⟩ := h
  refine ⟨ho, a, cap, rfl, h1, h2, fun hx => ?_⟩
  obtain ⟨b, off, rfl, hc⟩ := h3 hx
  refine ⟨b, off, rfl, fun i hi => ?_⟩
  have hb : T ≤ b := hf
  rw [World.cell?_setCell_other]
  · exact hc i hi
  · intro e
    simp only [Addr.mk.injEq] at e
    omega
theorem IntAt.elder {w : World} {v : Value} {z : Int} {T g o : Nat} (h : IntAt w v z) (hf : FreshI T v) (hg : g < T) (c : Value) : IntAt (w.setCell ⟨g, o, none⟩ c) v z := by
  obtain ⟨b, n, a, cap, rfl, hn, e, h0⟩ := h
  obtain ⟨s, l, he, hl⟩ := hf
  simp only [Value.agg.injEq, Array.mk.injEq, List.cons.injEq, Value.bool.injEq, and_true] at he
  obtain ⟨rfl, rfl⟩ := he
  exact ⟨b, n, a, cap, rfl, hn.elder hl hg c, e, h0⟩
theorem RInt.elder {w : World} {v : Value} {z : Int} {T g o : Nat} (h : RInt w v z) (hf : FreshI T v) (hg : g < T) (c : Value) : RInt (w.setCell ⟨g, o, none⟩ c) v z := by
  obtain ⟨b, n, a, cap, rfl, hn, e, h0⟩ := h
  obtain ⟨s, l, he, hl⟩ := hf
  simp only [Value.agg.injEq, Array.mk.injEq, List.cons.injEq, Value.bool.injEq, and_true] at he
  obtain ⟨rfl, rfl⟩ := he
  exact ⟨b, n, a, cap, rfl, hn.elder hl hg c, e, h0⟩

set_option maxRecDepth 100000 in
set_option maxHeartbeats 1000000 in
theorem ilimbs_own (v : Value) (z : Int) (w : World) (h : IntAt w v z) (hl : (lim z.natAbs).length ≤ 1000000000) :
    Calls Try.prog 34 #[v] w fun e w' => ∃ l, e = .returned (.tuple #[.bool (decide (z < 0)), l]) ∧ Own w' w.heap.size l (lim z.natAbs) ∧ Below w.heap.size w w' := by
  obtain ⟨b, n, a, c, rfl, hn, rfl, h0⟩ := h
  have hb : decide (sg b n < 0) = b := by
    cases b with
    | true => have : n ≠ 0 := fun e => absurd (h0 e) (by decide)
              rw [sg_true, decide_eq_true (by omega)]
    | false => rw [sg_false, decide_eq_false (by omega)]
  rw [sg_abs] at hl ⊢
  rw [hb]
  have HE := hide (boxes1 w (.bool b) (.slice a (lim n).length c))
  have HN := hide (hn.below HE.out.2)
  clear hn h0 hb
  go_enter Try.func34, Try.ntmps34
  go_wp2_with fail
  refine wp_calm (fun w' => Below w.heap.size w w' ∧ Box w' w.heap.size (.bool b) (.slice a (lim n).length c)) (fun _ => true) 7 #[false, false, false, false, false, false, false] (by kernel_rfl) rfl rfl ?_
  have HF := hide (And.intro HE.out.2.drew HE.out.1.drew)
  refine Calm.take (i := 0) (v := ?_) (a' := ?_) (l' := #[true, false, false, false, false, false, false]) (d := some 4) rfl (by kernel_rfl) (by kernel_rfl) (by kernel_rfl) (by kernel_rfl) (fun _ _ _ h => h) HF.out rfl ?_ rfl rfl ?_ ?_
  rotate_left
  · intro w' hF; clear hF; go_simp; try rfl
  rotate_left
  · simp only [Act.put]; exact rfl
  refine Calm.take (i := 1) (v := ?_) (a' := ?_) (l' := #[true, true, false, false, false, false, false]) (d := some 5) rfl (by kernel_rfl) (by kernel_rfl) (by kernel_rfl) (by kernel_rfl) (fun _ _ _ h => h) HF.out rfl ?_ rfl rfl ?_ ?_
  rotate_left
  · intro w' hF; have f10 := hF.2.cell0; have f11 := hF.2.cell1; clear hF; go_simp; try rfl
  rotate_left
  · simp only [Act.put]; exact rfl
  refine Calm.take (i := 2) (v := ?_) (a' := ?_) (l' := #[true, true, true, false, false, false, false]) (d := some 6) rfl (by kernel_rfl) (by kernel_rfl) (by kernel_rfl) (by kernel_rfl) (fun _ _ _ h => h) HF.out rfl ?_ rfl rfl ?_ ?_
  rotate_left
  · intro w' hF; clear hF; go_simp; try rfl
  rotate_left
  · simp only [Act.put]; exact rfl
  refine Calm.take (i := 3) (v := ?_) (a' := ?_) (l' := #[true, true, true, true, false, false, false]) (d := some 7) rfl (by kernel_rfl) (by kernel_rfl) (by kernel_rfl) (by kernel_rfl) (fun _ _ _ h => h) HF.out rfl ?_ rfl rfl ?_ ?_
  rotate_left
  · intro w' hF; have f10 := hF.2.cell0; have f11 := hF.2.cell1; clear hF; go_simp; try rfl
  rotate_left
  · simp only [Act.put]; exact rfl
  refine Calm.one (i := 4) (l' := #[true, true, true, true, true, false, false]) (by kernel_rfl) rfl rfl rfl fun K hK => ?_
  go_simp
  refine (norm_any _ (lim n) _ HN.out.drew hl).mono ?_
  rintro e u0 ⟨l, rfl, n, _, hb⟩
  rw [val_lim] at n
  try replace BX := hide (BX.out.step hb)
  have T1 := hide n
  clear n
  have HF' := hide (And.intro (HF.out.1.trans ((hb).mono HF.out.1.size)) (HF.out.2.step (hb)))
  refine hK _ _ (fun _ => HF'.out) ?_
  clear hK K HF hb
  have HF := hide HF'.out
  clear HF'
  refine Calm.take (i := 5) (v := ?_) (a' := ?_) (l' := #[true, true, true, true, true, true, false]) (d := some 2) rfl (by kernel_rfl) (by kernel_rfl) (by kernel_rfl) (by kernel_rfl) (fun _ _ _ h => h) HF.out rfl ?_ rfl rfl ?_ ?_
  rotate_left
  · intro w' hF; clear hF; go_simp; try rfl
  rotate_left
  · simp only [Act.put]; exact rfl
  refine Calm.take (i := 6) (v := ?_) (a' := ?_) (l' := #[true, true, true, true, true, true, true]) (d := some 3) rfl (by kernel_rfl) (by kernel_rfl) (by kernel_rfl) (by kernel_rfl) (fun _ _ _ h => h) HF.out rfl ?_ rfl rfl ?_ ?_
  rotate_left
  · intro w' hF; clear hF; go_simp; try rfl
  rotate_left
  · simp only [Act.put]; exact rfl
  refine Calm.done (by kernel_rfl) ?_
  go_wp2
  go_ret2
  exact ⟨l, rfl, Own.lower T1.out (by simp), HF.out.1⟩

end Go.Proofs.Ytpbfbjipdacbkab
