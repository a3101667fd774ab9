/- The document's answers for layer 1 (swageref01): Read. -/
import Derived.Test.YtmnllmonbdjnnaaRead
import Derived.Test.YtmnllmonbdjnnaaRefMul
import Derived.Test.YtmnllmonbdjnnaaCalm
namespace Go.Proofs.Ytmnllmonbdjnnaa
open Go.RowKit

theorem dig_wrap (d : Nat) (h : d ≤ 9) : IntKind.u32.wrap (IntKind.u8.wrap (d : Int)) = (d : Int) := by rw [IntKind.wrap_u32, IntKind.wrap_u8]; omega
theorem rval_c (c : Nat) : val [c] = c := by simp [val]

theorem below_alloc' {T : Nat} (w : World) (o : Obj) (h : T ≤ w.heap.size) : Below T w (w.alloc o) := (Below.refl _ _).alloc h o
theorem nv10_len (s : ByteArray) (k : Nat) (h : Good s k) : (lim (nv s k * 10)).length ≤ k + 1 :=
  lim_length_le (Nat.lt_of_lt_of_le (show nv s k * 10 < 10 ^ (k + 1) by have := nv_lt s k h; rw [pow_succ10]; omega) (Nat.pow_le_pow_left (by decide) _))

set_option maxRecDepth 100000 in
set_option maxHeartbeats 2000000 in
theorem rread_any (s : ByteArray) (w : World) (hw : s.size ≤ 9223372036854775807) :
    Calls Try.prog 9 #[.string s] w fun e w' => ∃ v xs a b, e = .returned (.tuple #[v, .agg #[.int .i64 (a : Nat), .int .i64 (b : Nat)]]) ∧ Nums w' v xs ∧ Rd s xs a b ∧ Below w.heap.size w w' := by
  go_enter Try.func9, Try.ntmps9
  by_cases hb : 65536 < s.size
  · go_wp2
    refine ret_spot rfl w.heap.size _ _ _ _ rfl (heap_alloc_new _ _) rfl ?_
    exact ⟨_, [], 3, 65536, rfl, Nums.nil_mk _ _ _ (Nat.zero_le _), .inl ⟨hb, rfl, rfl, rfl⟩, below_alloc _ _⟩
  · have hs : s.size ≤ 65536 := by omega
    clear hb hw
    by_cases h0 : s.size = 0
    · go_wp2
      refine ret_spot rfl w.heap.size _ _ _ _ rfl (heap_alloc_new _ _) rfl ?_
      exact ⟨_, [], 6, 0, rfl, Nums.nil_mk _ _ _ (Nat.zero_le _), .inr (.inl ⟨h0, rfl, rfl, rfl⟩), below_alloc _ _⟩
    · have hp : 0 < s.size := by omega
      have hz : ((s.size : Int) == 0) = false := by rw [beq_eq_false_iff_ne]; omega
      clear h0
      go_wp2
      clear hz
      go_loopw [4, 5] (fun ov iv wr => ∃ k : Nat, k ≤ s.size ∧ iv = .int .i64 k ∧ Good s k ∧ Own wr (w.heap.size + 1) ov (lim (nv s k)) ∧ Below (w.heap.size + 1) (w.alloc (.cells #[.int .i64 0, .int .i64 0] 29)) wr) (fun _ iv _ => s.size - (intOf iv).toNat)
      case atStart => exact ⟨0, Nat.zero_le _, rfl, Good.zero s, by simp only [nv]; rw [lim_zero]; exact World.ownsRow_nil _ _ _ _, Below.refl _ _⟩
      case round =>
        obtain ⟨k, hk, rfl, hg, hN, hbel⟩ := hrel
        have HG := hide hg
        have HOW := hide hN
        have HN := hide (hN.nums (ok_lim _))
        have HBE := hide hbel
        have HX := hide ((Box2.new w _ _ _).below hbel (Nat.lt_succ_self _))
        clear hg hN hbel
        by_cases hlt : k < s.size
        · have hb := bt_get s k hlt
          have hb0 := bt_get s 0 hp
          by_cases hf : Fine s k
          · have HF := hide hf
            obtain ⟨d, hd⟩ : ∃ d, bt s k = 48 + d := ⟨bt s k - 48, by have := hf.lo; omega⟩
            have h9 : d ≤ 9 := by have := hf.hi; omega
            have hlen := nv_len s k (nv s k) HG.out (Nat.le_refl _)
            have HD := hide hd
            rw [hd] at hb
            clear hd
            rcases Nat.eq_zero_or_pos k with hk0 | hk1
            · have hk2 : ¬ (0 : Int) < (k : Int) := by omega
              clear hf hk0
              go_wp2_with fail
              have hT := fun v W h1 => rmulSmall_any v (lim (nv s k)) 10 W h1 (by decide) (by omega)
              rw [show ((10 : Nat) : Int) = 10 from rfl] at hT
              refine wp_calm (fun _ => True) (fun _ => true) 10 #[false, false, false, false, false, false, false, false, false, false] (by kernel_rfl) rfl rfl ?_
              refine Calm.take (i := 0) (v := ?_) (a' := ?_) (l' := #[true, false, false, false, false, false, false, false, false, false]) (d := some 41) rfl (by kernel_rfl) (by kernel_rfl) (by kernel_rfl) (by kernel_rfl) (fun _ _ _ h => h) trivial rfl ?_ rfl rfl ?_ ?_
              rotate_left
              · intro w' _; go_simp; try rfl
              rotate_left
              · simp only [Act.put]; exact rfl
              refine Calm.take (i := 2) (v := ?_) (a' := ?_) (l' := #[true, false, true, false, false, false, false, false, false, false]) (d := some 43) rfl (by kernel_rfl) (by kernel_rfl) (by kernel_rfl) (by kernel_rfl) (fun _ _ _ h => h) trivial rfl ?_ rfl rfl ?_ ?_
              rotate_left
              · intro w' _; go_simp; try rfl
              rotate_left
              · simp only [Act.put]; exact rfl
              refine Calm.take (i := 3) (v := ?_) (a' := ?_) (l' := #[true, false, true, true, false, false, false, false, false, false]) (d := some 44) rfl (by kernel_rfl) (by kernel_rfl) (by kernel_rfl) (by kernel_rfl) (fun _ _ _ h => h) trivial rfl ?_ rfl rfl ?_ ?_
              rotate_left
              · intro w' _; go_simp; try rfl
              rotate_left
              · simp only [Act.put]; exact rfl
              refine Calm.take (i := 4) (v := ?_) (a' := ?_) (l' := #[true, false, true, true, true, false, false, false, false, false]) (d := some 45) rfl (by kernel_rfl) (by kernel_rfl) (by kernel_rfl) (by kernel_rfl) (fun _ _ _ h => h) trivial rfl ?_ rfl rfl ?_ ?_
              rotate_left
              · intro w' _; go_simp; try rfl
              rotate_left
              · simp only [Act.put]; exact rfl
              refine Calm.take (i := 5) (v := ?_) (a' := ?_) (l' := #[true, false, true, true, true, true, false, false, false, false]) (d := some 46) rfl (by kernel_rfl) (by kernel_rfl) (by kernel_rfl) (by kernel_rfl) (fun _ _ _ h => h) trivial rfl ?_ rfl rfl ?_ ?_
              rotate_left
              · intro w' _; go_simp; try rfl
              rotate_left
              · simp only [Act.put]; exact rfl
              refine Calm.take (i := 6) (v := ?_) (a' := ?_) (l' := #[true, false, true, true, true, true, true, false, false, false]) (d := some 47) rfl (by kernel_rfl) (by kernel_rfl) (by kernel_rfl) (by kernel_rfl) (fun _ _ _ h => h) trivial rfl ?_ rfl rfl ?_ ?_
              rotate_left
              · intro w' _; go_simp; try rfl
              rotate_left
              · simp only [Act.put]; exact rfl
              rw [show (48 + (d : Int) - 48) = (d : Int) from by omega, dig_wrap d h9]
              refine Calm.two (i := 1) (j := 7) (l := #[true, true, true, true, true, true, true, false, false, false]) (l' := #[true, false, true, true, true, true, true, true, false, false]) (by kernel_rfl) rfl rfl rfl rfl rfl rfl (fun K hK => ?_) (fun K hK => ?_)
              · go_simp
                refine (hT _ _ HN.out.drew).mono ?_
                rintro e w2 ⟨v2, rfl, hO2, hb2⟩
                rw [val_lim] at hO2
                have HN2 := hide (hO2.nums (ok_lim _))
                have HB2 := hide (HBE.out.drew.trans (hb2.mono (by have := HBE.out.size; simpa using this)))
                have HL2 := hide (HB2.out.size)
                have hlen2 := nv10_len s k HG.out
                clear hO2 hb2
                refine hK _ _ (fun _ => trivial) ?_
                clear hK K
                refine Calm.one (i := 7) (l' := #[true, true, true, true, true, true, true, true, false, false]) (by kernel_rfl) rfl rfl rfl fun K hK => ?_
                go_simp
                refine hK _ _ (fun _ => trivial) ?_
                clear hK K
                refine Calm.one (i := 8) (l' := #[true, true, true, true, true, true, true, true, true, false]) (by kernel_rfl) rfl rfl rfl fun K hK => ?_
                go_simp
                refine (radd_any _ _ (lim (nv s k * 10)) [d] _ (HN2.out.below (below_alloc _ _)) (nums_lit1 _ _ _ _ rfl (by unfold BB; omega)) (by omega) (by simp)).mono ?_
                rintro e w3 ⟨v3, rfl, hO3, hb3⟩
                rw [val_lim, rval_c] at hO3
                have HB3 := hide (HB2.out.trans ((below_alloc' _ _ (by have := HL2.out; simpa using this)).trans (hb3.mono (by have := HL2.out; simp at this ⊢; omega))))
                clear hb3
                have HN3 := hide (hO3.mono (base' := w.heap.size + 1) (by have := HL2.out; simp at this ⊢; omega))
                clear hO3
                refine hK _ _ (fun _ => trivial) ?_
                clear hK K
                refine Calm.take (i := 9) (v := ?_) (a' := ?_) (l' := #[true, true, true, true, true, true, true, true, true, true]) (d := some 4) rfl (by kernel_rfl) (by kernel_rfl) (by kernel_rfl) (by kernel_rfl) (fun _ _ _ h => h) trivial rfl ?_ rfl rfl ?_ ?_
                rotate_left
                · intro w' _; go_simp; try rfl
                rotate_left
                · simp only [Act.put]; exact rfl
                refine Calm.done (by kernel_rfl) ?_
                go_wp2
                go_roundw
                case rel => exact ⟨k + 1, by omega, by go_num, HG.out.succ HF.out, by simp only [nv]; rw [HD.out, Nat.add_sub_cancel_left]; exact HN3.out, HB3.out⟩
                case measure => simp [intOf]; omega
              · go_simp
                refine hK _ _ (fun _ => trivial) ?_
                clear hK K
                refine Calm.one (i := 1) (l' := #[true, true, true, true, true, true, true, true, false, false]) (by kernel_rfl) rfl rfl rfl fun K hK => ?_
                go_simp
                refine (hT _ _ (HN.out.below (below_alloc _ _)).drew).mono ?_
                rintro e w2 ⟨v2, rfl, hO2, hb2⟩
                rw [val_lim] at hO2
                have HN2 := hide (hO2.nums (ok_lim _))
                have HD2 := hide ((nums_lit1 wr _ (d : Int) d rfl (by unfold BB; omega)).drew.below hb2)
                have HB2 := hide ((HBE.out.trans (below_alloc' _ _ (by have := HBE.out.size; simpa using this))).drew.trans (hb2.mono (by have := HBE.out.size; simp at this ⊢; omega)))
                have HL2 := hide (HB2.out.size)
                have hlen2 := nv10_len s k HG.out
                clear hO2 hb2
                refine hK _ _ (fun _ => trivial) ?_
                clear hK K
                refine Calm.one (i := 8) (l' := #[true, true, true, true, true, true, true, true, true, false]) (by kernel_rfl) rfl rfl rfl fun K hK => ?_
                go_simp
                refine (radd_any _ _ (lim (nv s k * 10)) [d] _ HN2.out HD2.out (by omega) (by simp)).mono ?_
                rintro e w3 ⟨v3, rfl, hO3, hb3⟩
                rw [val_lim, rval_c] at hO3
                have HB3 := hide (HB2.out.trans (hb3.mono (by have := HL2.out; simpa using this)))
                clear hb3
                have HN3 := hide (hO3.mono (base' := w.heap.size + 1) (by have := HL2.out; simp at this ⊢; omega))
                clear hO3
                refine hK _ _ (fun _ => trivial) ?_
                clear hK K
                refine Calm.take (i := 9) (v := ?_) (a' := ?_) (l' := #[true, true, true, true, true, true, true, true, true, true]) (d := some 4) rfl (by kernel_rfl) (by kernel_rfl) (by kernel_rfl) (by kernel_rfl) (fun _ _ _ h => h) trivial rfl ?_ rfl rfl ?_ ?_
                rotate_left
                · intro w' _; go_simp; try rfl
                rotate_left
                · simp only [Act.put]; exact rfl
                refine Calm.done (by kernel_rfl) ?_
                go_wp2
                go_roundw
                case rel => exact ⟨k + 1, by omega, by go_num, HG.out.succ HF.out, by simp only [nv]; rw [HD.out, Nat.add_sub_cancel_left]; exact HN3.out, HB3.out⟩
                case measure => simp [intOf]; omega
            · have hne := hf.lead hk1
              have hneb : (((bt s 0 : Nat) : Int) == 48) = false := by rw [beq_eq_false_iff_ne]; omega
              clear hf hne
              go_wp2_with fail
              have hT := fun v W h1 => rmulSmall_any v (lim (nv s k)) 10 W h1 (by decide) (by omega)
              rw [show ((10 : Nat) : Int) = 10 from rfl] at hT
              refine wp_calm (fun _ => True) (fun _ => true) 10 #[false, false, false, false, false, false, false, false, false, false] (by kernel_rfl) rfl rfl ?_
              refine Calm.take (i := 0) (v := ?_) (a' := ?_) (l' := #[true, false, false, false, false, false, false, false, false, false]) (d := some 41) rfl (by kernel_rfl) (by kernel_rfl) (by kernel_rfl) (by kernel_rfl) (fun _ _ _ h => h) trivial rfl ?_ rfl rfl ?_ ?_
              rotate_left
              · intro w' _; go_simp; try rfl
              rotate_left
              · simp only [Act.put]; exact rfl
              refine Calm.take (i := 2) (v := ?_) (a' := ?_) (l' := #[true, false, true, false, false, false, false, false, false, false]) (d := some 43) rfl (by kernel_rfl) (by kernel_rfl) (by kernel_rfl) (by kernel_rfl) (fun _ _ _ h => h) trivial rfl ?_ rfl rfl ?_ ?_
              rotate_left
              · intro w' _; go_simp; try rfl
              rotate_left
              · simp only [Act.put]; exact rfl
              refine Calm.take (i := 3) (v := ?_) (a' := ?_) (l' := #[true, false, true, true, false, false, false, false, false, false]) (d := some 44) rfl (by kernel_rfl) (by kernel_rfl) (by kernel_rfl) (by kernel_rfl) (fun _ _ _ h => h) trivial rfl ?_ rfl rfl ?_ ?_
              rotate_left
              · intro w' _; go_simp; try rfl
              rotate_left
              · simp only [Act.put]; exact rfl
              refine Calm.take (i := 4) (v := ?_) (a' := ?_) (l' := #[true, false, true, true, true, false, false, false, false, false]) (d := some 45) rfl (by kernel_rfl) (by kernel_rfl) (by kernel_rfl) (by kernel_rfl) (fun _ _ _ h => h) trivial rfl ?_ rfl rfl ?_ ?_
              rotate_left
              · intro w' _; go_simp; try rfl
              rotate_left
              · simp only [Act.put]; exact rfl
              refine Calm.take (i := 5) (v := ?_) (a' := ?_) (l' := #[true, false, true, true, true, true, false, false, false, false]) (d := some 46) rfl (by kernel_rfl) (by kernel_rfl) (by kernel_rfl) (by kernel_rfl) (fun _ _ _ h => h) trivial rfl ?_ rfl rfl ?_ ?_
              rotate_left
              · intro w' _; go_simp; try rfl
              rotate_left
              · simp only [Act.put]; exact rfl
              refine Calm.take (i := 6) (v := ?_) (a' := ?_) (l' := #[true, false, true, true, true, true, true, false, false, false]) (d := some 47) rfl (by kernel_rfl) (by kernel_rfl) (by kernel_rfl) (by kernel_rfl) (fun _ _ _ h => h) trivial rfl ?_ rfl rfl ?_ ?_
              rotate_left
              · intro w' _; go_simp; try rfl
              rotate_left
              · simp only [Act.put]; exact rfl
              rw [show (48 + (d : Int) - 48) = (d : Int) from by omega, dig_wrap d h9]
              refine Calm.two (i := 1) (j := 7) (l := #[true, true, true, true, true, true, true, false, false, false]) (l' := #[true, false, true, true, true, true, true, true, false, false]) (by kernel_rfl) rfl rfl rfl rfl rfl rfl (fun K hK => ?_) (fun K hK => ?_)
              · go_simp
                refine (hT _ _ HN.out.drew).mono ?_
                rintro e w2 ⟨v2, rfl, hO2, hb2⟩
                rw [val_lim] at hO2
                have HN2 := hide (hO2.nums (ok_lim _))
                have HB2 := hide (HBE.out.drew.trans (hb2.mono (by have := HBE.out.size; simpa using this)))
                have HL2 := hide (HB2.out.size)
                have hlen2 := nv10_len s k HG.out
                clear hO2 hb2
                refine hK _ _ (fun _ => trivial) ?_
                clear hK K
                refine Calm.one (i := 7) (l' := #[true, true, true, true, true, true, true, true, false, false]) (by kernel_rfl) rfl rfl rfl fun K hK => ?_
                go_simp
                refine hK _ _ (fun _ => trivial) ?_
                clear hK K
                refine Calm.one (i := 8) (l' := #[true, true, true, true, true, true, true, true, true, false]) (by kernel_rfl) rfl rfl rfl fun K hK => ?_
                go_simp
                refine (radd_any _ _ (lim (nv s k * 10)) [d] _ (HN2.out.below (below_alloc _ _)) (nums_lit1 _ _ _ _ rfl (by unfold BB; omega)) (by omega) (by simp)).mono ?_
                rintro e w3 ⟨v3, rfl, hO3, hb3⟩
                rw [val_lim, rval_c] at hO3
                have HB3 := hide (HB2.out.trans ((below_alloc' _ _ (by have := HL2.out; simpa using this)).trans (hb3.mono (by have := HL2.out; simp at this ⊢; omega))))
                clear hb3
                have HN3 := hide (hO3.mono (base' := w.heap.size + 1) (by have := HL2.out; simp at this ⊢; omega))
                clear hO3
                refine hK _ _ (fun _ => trivial) ?_
                clear hK K
                refine Calm.take (i := 9) (v := ?_) (a' := ?_) (l' := #[true, true, true, true, true, true, true, true, true, true]) (d := some 4) rfl (by kernel_rfl) (by kernel_rfl) (by kernel_rfl) (by kernel_rfl) (fun _ _ _ h => h) trivial rfl ?_ rfl rfl ?_ ?_
                rotate_left
                · intro w' _; go_simp; try rfl
                rotate_left
                · simp only [Act.put]; exact rfl
                refine Calm.done (by kernel_rfl) ?_
                go_wp2
                go_roundw
                case rel => exact ⟨k + 1, by omega, by go_num, HG.out.succ HF.out, by simp only [nv]; rw [HD.out, Nat.add_sub_cancel_left]; exact HN3.out, HB3.out⟩
                case measure => simp [intOf]; omega
              · go_simp
                refine hK _ _ (fun _ => trivial) ?_
                clear hK K
                refine Calm.one (i := 1) (l' := #[true, true, true, true, true, true, true, true, false, false]) (by kernel_rfl) rfl rfl rfl fun K hK => ?_
                go_simp
                refine (hT _ _ (HN.out.below (below_alloc _ _)).drew).mono ?_
                rintro e w2 ⟨v2, rfl, hO2, hb2⟩
                rw [val_lim] at hO2
                have HN2 := hide (hO2.nums (ok_lim _))
                have HD2 := hide ((nums_lit1 wr _ (d : Int) d rfl (by unfold BB; omega)).drew.below hb2)
                have HB2 := hide ((HBE.out.trans (below_alloc' _ _ (by have := HBE.out.size; simpa using this))).drew.trans (hb2.mono (by have := HBE.out.size; simp at this ⊢; omega)))
                have HL2 := hide (HB2.out.size)
                have hlen2 := nv10_len s k HG.out
                clear hO2 hb2
                refine hK _ _ (fun _ => trivial) ?_
                clear hK K
                refine Calm.one (i := 8) (l' := #[true, true, true, true, true, true, true, true, true, false]) (by kernel_rfl) rfl rfl rfl fun K hK => ?_
                go_simp
                refine (radd_any _ _ (lim (nv s k * 10)) [d] _ HN2.out HD2.out (by omega) (by simp)).mono ?_
                rintro e w3 ⟨v3, rfl, hO3, hb3⟩
                rw [val_lim, rval_c] at hO3
                have HB3 := hide (HB2.out.trans (hb3.mono (by have := HL2.out; simpa using this)))
                clear hb3
                have HN3 := hide (hO3.mono (base' := w.heap.size + 1) (by have := HL2.out; simp at this ⊢; omega))
                clear hO3
                refine hK _ _ (fun _ => trivial) ?_
                clear hK K
                refine Calm.take (i := 9) (v := ?_) (a' := ?_) (l' := #[true, true, true, true, true, true, true, true, true, true]) (d := some 4) rfl (by kernel_rfl) (by kernel_rfl) (by kernel_rfl) (by kernel_rfl) (fun _ _ _ h => h) trivial rfl ?_ rfl rfl ?_ ?_
                rotate_left
                · intro w' _; go_simp; try rfl
                rotate_left
                · simp only [Act.put]; exact rfl
                refine Calm.done (by kernel_rfl) ?_
                go_wp2
                go_roundw
                case rel => exact ⟨k + 1, by omega, by go_num, HG.out.succ HF.out, by simp only [nv]; rw [HD.out, Nat.add_sub_cancel_left]; exact HN3.out, HB3.out⟩
                case measure => simp [intOf]; omega
          · have HF := hide hf
            by_cases c1 : bt s k < 48
            · clear hf
              have hc0 := HX.out.cell0
              have hc1 := HX.out.cell1
              have hf0 := HX.out.free 0
              have hf1 := HX.out.free 1
              go_wp2
              refine ret_spot rfl w.heap.size _ _ _ _ rfl ((HX.out.set0 _).set1 _) rfl ?_
              exact ⟨_, [], 6, k, rfl, Nums.nil_mk _ _ _ (Nat.zero_le _), .inr (.inr (.inl ⟨hs, k, hlt, HG.out, HF.out, rfl, rfl, rfl⟩)), (((below_alloc w _).trans (HBE.out.mono (Nat.le_succ _))).setCell (p := ⟨w.heap.size, 0, none⟩) (Nat.le_refl _) _).setCell (p := ⟨w.heap.size, 1, none⟩) (Nat.le_refl _) _⟩
            · by_cases c2 : 57 < bt s k
              · clear hf
                have hc0 := HX.out.cell0
                have hc1 := HX.out.cell1
                have hf0 := HX.out.free 0
                have hf1 := HX.out.free 1
                go_wp2
                refine ret_spot rfl w.heap.size _ _ _ _ rfl ((HX.out.set0 _).set1 _) rfl ?_
                exact ⟨_, [], 6, k, rfl, Nums.nil_mk _ _ _ (Nat.zero_le _), .inr (.inr (.inl ⟨hs, k, hlt, HG.out, HF.out, rfl, rfl, rfl⟩)), (((below_alloc w _).trans (HBE.out.mono (Nat.le_succ _))).setCell (p := ⟨w.heap.size, 0, none⟩) (Nat.le_refl _) _).setCell (p := ⟨w.heap.size, 1, none⟩) (Nat.le_refl _) _⟩
              · have c3 : 1 ≤ k ∧ bt s 0 = 48 := Classical.byContradiction fun h => hf ⟨by omega, by omega, fun h1 h2 => h ⟨h1, h2⟩⟩
                obtain ⟨c3, c4⟩ := c3
                clear hf
                have hc0 := HX.out.cell0
                have hc1 := HX.out.cell1
                have hf0 := HX.out.free 0
                have hf1 := HX.out.free 1
                go_wp2
                refine ret_spot rfl w.heap.size _ _ _ _ rfl ((HX.out.set0 _).set1 _) rfl ?_
                exact ⟨_, [], 6, k, rfl, Nums.nil_mk _ _ _ (Nat.zero_le _), .inr (.inr (.inl ⟨hs, k, hlt, HG.out, HF.out, rfl, rfl, rfl⟩)), (((below_alloc w _).trans (HBE.out.mono (Nat.le_succ _))).setCell (p := ⟨w.heap.size, 0, none⟩) (Nat.le_refl _) _).setCell (p := ⟨w.heap.size, 1, none⟩) (Nat.le_refl _) _⟩
        · have e : k = s.size := by omega
          subst e
          have hc0 := HX.out.cell0
          have hc1 := HX.out.cell1
          have hf0 := HX.out.free 0
          have hf1 := HX.out.free 1
          go_wp2
          refine ret_spot rfl w.heap.size _ _ _ _ rfl ((HX.out.set0 _).set1 _) rfl ?_
          exact ⟨_, _, 0, 0, rfl, (HOW.out.set2 (Nat.lt_succ_self _) _ _).nums (ok_lim _), .inr (.inr (.inr ⟨hs, hp, HG.out, rfl, rfl, rfl⟩)), (((below_alloc w _).trans (HBE.out.mono (Nat.le_succ _))).setCell (p := ⟨w.heap.size, 0, none⟩) (Nat.le_refl _) _).setCell (p := ⟨w.heap.size, 1, none⟩) (Nat.le_refl _) _⟩
end Go.Proofs.Ytmnllmonbdjnnaa
