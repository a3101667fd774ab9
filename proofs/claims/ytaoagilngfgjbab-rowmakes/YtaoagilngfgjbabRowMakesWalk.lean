/- swagelaw04.RowMakes answers true, and turns nothing that was there. -/
import Derived.Test.YtaoagilngfgjbabWLive
import Derived.Test.YtaoagilngfgjbabWMake
namespace Go.Proofs.Ytaoagilngfgjbab
open Go.RowKit

theorem Longs.at {w : World} {a : Option Addr} {n cap : Nat} {ls : List Int} (h : Longs w (.slice a n cap) ls) {i : Nat} (hi : i < ls.length) :
    ∃ b off, a = some ⟨b, off, none⟩ ∧ CellAt w ⟨b, off + i, none⟩ (.int .i64 (ls.getD i 0)) ∧ Fits (ls.getD i 0) := by
  obtain ⟨a', c', he, _, _, hb, h3⟩ := h
  simp only [Value.slice.injEq] at he
  obtain ⟨rfl, _, rfl⟩ := he
  obtain ⟨b, off, rfl, h⟩ := h3 (by intro e; rw [e] at hi; simp at hi)
  exact ⟨b, off, rfl, ⟨h i hi⟩, by unfold Fits; have := hb i hi; omega⟩
theorem IRow.ints2 {w : World} {b n : Nat} {zs : List Int} (h : IRow w b zs) (hl : zs.length = n) (hm : n ≤ 4096) : Ints w (.slice (some ⟨b, 0, none⟩) n n) zs := by
  subst hl; exact h.ints (by unfold maxLen; omega)
theorem lead_unset (n k : Nat) : leadI (((List.replicate n 0).set k 1).set k 0) = 0 := by
  rw [List.set_set]
  have : (List.replicate n (0 : Int)).set k 0 = List.replicate n 0 := by
    apply List.ext_getElem
    · simp
    · intro i h1 h2; rw [List.getElem_set]; simp
  rw [this, lead_noughts]

set_option maxRecDepth 100000 in
set_option maxHeartbeats 8000000 in
theorem rmakes_walk (n k : Int) (va : Value) (ls : List Int) (w : World) (h : Longs w va ls) :
    Calls Try.prog 7 #[.int .i64 n, .int .i64 k, va] w fun e w' => e = .returned (.bool true) ∧ Below w.heap.size w w' := by
  have HL := hide h
  obtain ⟨a, cap, rfl, hcap, hm, _, _⟩ := h
  unfold maxLen at hm
  go_enter Try.func7, Try.ntmps7
  go_wp2_with fail
  refine (rlive_any _).mono ?_
  rintro e w1 ⟨rfl, hb⟩
  have HB := hide hb
  replace HL := hide (HL.out.below hb)
  clear hb
  by_cases h5 : 5000 < ls.length
  · have h5' : (5000 : Int) < (ls.length : Int) := by omega
    go_wp2
    go_ret
    exact ⟨rfl, HB.out⟩
  · have h5' : ¬ (5000 : Int) < (ls.length : Int) := by omega
    have H5 := hide h5
    clear h5
    by_cases hn : n < 0 ∨ 4096 < n
    · have HN := hide hn
      clear hn
      go_wp2_with fail
      refine (zero_bad n _ HN.out).mono ?_
      rintro e w2 ⟨rfl, rfl⟩
      go_wp2_with fail
      refine (unit_bad n k _ HN.out).mono ?_
      rintro e w3 ⟨rfl, rfl⟩
      go_wp2_with fail
      refine (rof_row _ ls _ HL.out (by have := H5.out; omega)).mono ?_
      rintro e w4 ⟨rfl, hr, hb⟩
      replace HB := hide (HB.out.trans ((hb).mono HB.out.size))
      replace HL := hide (HL.out.below hb)
      have RO := hide hr
      clear hr hb
      generalize w3.heap.size + 1 = go' at *
      go_wp2
      go_loopw [12, 13, 14] (fun iv _ _ wr => ∃ j : Nat, j ≤ ls.length ∧ iv = .int .i64 j ∧ Below w.heap.size w wr ∧ Longs wr (.slice a ls.length cap) ls ∧ IRow wr go' ls) (fun iv _ _ _ => ls.length - (intOf iv).toNat)
      case atStart => exact ⟨0, Nat.zero_le _, rfl, HB.out, HL.out, RO.out⟩
      case round =>
        obtain ⟨j, hj, rfl, hHB, hHL, hRO⟩ := hrel
        clear HB HL RO
        have HB := hide hHB
        have HL := hide hHL
        have RO := hide hRO
        clear hHB hHL hRO
        by_cases hlt : j < ls.length
        · obtain ⟨b, off, rfl, kl, bd⟩ := HL.out.at hlt
          obtain ⟨s, m, l, c, e1, e2, e3⟩ := RO.out.cells j hlt
          have IX := hide e3
          have KL := hide kl
          have BD := hide bd
          clear e3 kl bd
          generalize ls.getD j 0 = z at *
          go_wp2_with fail
          refine (ismall_any _ z _ IX.out).mono ?_
          rintro e w5 ⟨he, hb⟩
          rw [smallOf_yes BD.out] at he
          subst he
          clear e1 e2
          replace HB := hide (HB.out.trans ((hb).mono HB.out.size))
          replace HL := hide (HL.out.below hb)
          replace RO := hide (RO.out.step hb)
          have e4 := (KL.out.step hb).out
          clear hb IX KL BD
          go_wp2
          go_roundw
          case rel => exact ⟨j + 1, by omega, by go_num, HB.out, HL.out, RO.out⟩
          case measure => simp [intOf]; omega
        · have ej : j = ls.length := by omega
          subst ej
          clear hj hlt
          rcases HN.out with h0 | h0
          · go_wp2_with fail
            refine (rlive_any _).mono ?_
            rintro e w6 ⟨rfl, hb⟩
            replace HB := hide (HB.out.trans (hb.mono HB.out.size))
            clear hb
            go_wp2
            go_ret
            exact ⟨rfl, HB.out⟩
          · have h1 : ¬ n < 0 := by omega
            go_wp2_with fail
            refine (rlive_any _).mono ?_
            rintro e w6 ⟨rfl, hb⟩
            replace HB := hide (HB.out.trans (hb.mono HB.out.size))
            clear hb
            go_wp2
            go_ret
            exact ⟨rfl, HB.out⟩
    · obtain ⟨nN, rfl⟩ : ∃ m : Nat, n = (m : Int) := ⟨n.toNat, by omega⟩
      have HN : Hid (nN ≤ 4096) := hide (by omega)
      by_cases hk : k < 0 ∨ (nN : Int) ≤ k
      · have HK := hide hk
        clear hn hk
        go_wp2_with fail
        refine (zero_ok nN _ HN.out).mono ?_
        rintro e w2 ⟨rfl, hr, hb⟩
        replace HB := hide (HB.out.trans ((hb).mono HB.out.size))
        replace HL := hide (HL.out.below hb)
        have RZ := hide hr
        clear hr hb
        generalize w1.heap.size = gz at *
        go_wp2_with fail
        refine (unit_range nN k _ HN.out HK.out).mono ?_
        rintro e w3 ⟨rfl, hb⟩
        replace HB := hide (HB.out.trans ((hb).mono HB.out.size))
        replace HL := hide (HL.out.below hb)
        replace RZ := hide (RZ.out.step hb)
        clear hb
        go_wp2_with fail
        refine (rof_row _ ls _ HL.out (by have := H5.out; omega)).mono ?_
        rintro e w4 ⟨rfl, hr, hb⟩
        replace HB := hide (HB.out.trans ((hb).mono HB.out.size))
        replace HL := hide (HL.out.below hb)
        replace RZ := hide (RZ.out.step hb)
        have RO := hide hr
        clear hr hb
        generalize w3.heap.size + 1 = go' at *
        go_wp2
        go_loopw [12, 13, 14] (fun iv _ _ wr => ∃ j : Nat, j ≤ ls.length ∧ iv = .int .i64 j ∧ Below w.heap.size w wr ∧ Longs wr (.slice a ls.length cap) ls ∧ IRow wr go' ls ∧ IRow wr gz (List.replicate nN 0)) (fun iv _ _ _ => ls.length - (intOf iv).toNat)
        case atStart => exact ⟨0, Nat.zero_le _, rfl, HB.out, HL.out, RO.out, RZ.out⟩
        case round =>
          obtain ⟨j, hj, rfl, hHB, hHL, hRO, hRZ⟩ := hrel
          clear HB HL RO RZ
          have HB := hide hHB
          have HL := hide hHL
          have RO := hide hRO
          have RZ := hide hRZ
          clear hHB hHL hRO hRZ
          by_cases hlt : j < ls.length
          · obtain ⟨b, off, rfl, kl, bd⟩ := HL.out.at hlt
            obtain ⟨s, m, l, c, e1, e2, e3⟩ := RO.out.cells j hlt
            have IX := hide e3
            have KL := hide kl
            have BD := hide bd
            clear e3 kl bd
            generalize ls.getD j 0 = z at *
            go_wp2_with fail
            refine (ismall_any _ z _ IX.out).mono ?_
            rintro e w5 ⟨he, hb⟩
            rw [smallOf_yes BD.out] at he
            subst he
            clear e1 e2
            replace HB := hide (HB.out.trans ((hb).mono HB.out.size))
            replace HL := hide (HL.out.below hb)
            replace RZ := hide (RZ.out.step hb)
            replace RO := hide (RO.out.step hb)
            have e4 := (KL.out.step hb).out
            clear hb IX KL BD
            go_wp2
            go_roundw
            case rel => exact ⟨j + 1, by omega, by go_num, HB.out, HL.out, RO.out, RZ.out⟩
            case measure => simp [intOf]; omega
          · have ej : j = ls.length := by omega
            subst ej
            clear hj hlt
            have h0 : ¬ (nN : Int) < 0 := by omega
            have h1 : ¬ 4096 < (nN : Int) := by have := HN.out; omega
            have EZ : (leadI (List.replicate nN 0) == 0) = true := by rw [lead_noughts]; rfl
            go_wp2_with fail
            refine (iszero_any _ (List.replicate nN 0) _ (RZ.out.ints2 (List.length_replicate) HN.out)).mono ?_
            rintro e w6 ⟨rfl, hb⟩
            rw [EZ]
            replace HB := hide (HB.out.trans ((hb).mono HB.out.size))
            replace HL := hide (HL.out.below hb)
            replace RZ := hide (RZ.out.step hb)
            replace RO := hide (RO.out.step hb)
            clear hb EZ h0 h1
            rcases HK.out with h0 | h0
            · go_wp2_with fail
              refine (rlive_any _).mono ?_
              rintro e w7 ⟨rfl, hb⟩
              replace HB := hide (HB.out.trans (hb.mono HB.out.size))
              clear hb
              go_wp2
              go_ret
              exact ⟨rfl, HB.out⟩
            · have h1 : ¬ k < 0 := by omega
              go_wp2_with fail
              refine (rlive_any _).mono ?_
              rintro e w7 ⟨rfl, hb⟩
              replace HB := hide (HB.out.trans (hb.mono HB.out.size))
              clear hb
              go_wp2
              go_ret
              exact ⟨rfl, HB.out⟩
      · obtain ⟨kN, rfl⟩ : ∃ m : Nat, k = (m : Int) := ⟨k.toNat, by omega⟩
        have HK : Hid (kN < nN) := hide (by omega)
        clear hn hk
        go_wp2_with fail
        refine (zero_ok nN _ HN.out).mono ?_
        rintro e w2 ⟨rfl, hr, hb⟩
        replace HB := hide (HB.out.trans ((hb).mono HB.out.size))
        replace HL := hide (HL.out.below hb)
        have RZ := hide hr
        clear hr hb
        generalize w1.heap.size = gz at *
        go_wp2_with fail
        have GU : Hid (w.heap.size ≤ w2.heap.size) := hide HB.out.size
        refine (unit_ok nN kN _ HN.out HK.out).mono ?_
        rintro e w3 ⟨rfl, hr, hb⟩
        replace HB := hide (HB.out.trans ((hb).mono HB.out.size))
        replace HL := hide (HL.out.below hb)
        replace RZ := hide (RZ.out.step hb)
        have RU := hide hr
        clear hr hb
        generalize w2.heap.size = gu at *
        go_wp2_with fail
        refine (rof_row _ ls _ HL.out (by have := H5.out; omega)).mono ?_
        rintro e w4 ⟨rfl, hr, hb⟩
        replace HB := hide (HB.out.trans ((hb).mono HB.out.size))
        replace HL := hide (HL.out.below hb)
        replace RZ := hide (RZ.out.step hb)
        replace RU := hide (RU.out.step hb)
        have RO := hide hr
        clear hr hb
        generalize w3.heap.size + 1 = go' at *
        go_wp2
        go_loopw [12, 13, 14] (fun iv _ _ wr => ∃ j : Nat, j ≤ ls.length ∧ iv = .int .i64 j ∧ Below w.heap.size w wr ∧ Longs wr (.slice a ls.length cap) ls ∧ IRow wr go' ls ∧ IRow wr gz (List.replicate nN 0) ∧ IRow wr gu ((List.replicate nN (0 : Int)).set kN 1)) (fun iv _ _ _ => ls.length - (intOf iv).toNat)
        case atStart => exact ⟨0, Nat.zero_le _, rfl, HB.out, HL.out, RO.out, RZ.out, RU.out⟩
        case round =>
          obtain ⟨j, hj, rfl, hHB, hHL, hRO, hRZ, hRU⟩ := hrel
          clear HB HL RO RZ RU
          have HB := hide hHB
          have HL := hide hHL
          have RO := hide hRO
          have RZ := hide hRZ
          have RU := hide hRU
          clear hHB hHL hRO hRZ hRU
          by_cases hlt : j < ls.length
          · obtain ⟨b, off, rfl, kl, bd⟩ := HL.out.at hlt
            obtain ⟨s, m, l, c, e1, e2, e3⟩ := RO.out.cells j hlt
            have IX := hide e3
            have KL := hide kl
            have BD := hide bd
            clear e3 kl bd
            generalize ls.getD j 0 = z at *
            go_wp2_with fail
            refine (ismall_any _ z _ IX.out).mono ?_
            rintro e w5 ⟨he, hb⟩
            rw [smallOf_yes BD.out] at he
            subst he
            clear e1 e2
            replace HB := hide (HB.out.trans ((hb).mono HB.out.size))
            replace HL := hide (HL.out.below hb)
            replace RZ := hide (RZ.out.step hb)
            replace RU := hide (RU.out.step hb)
            replace RO := hide (RO.out.step hb)
            have e4 := (KL.out.step hb).out
            clear hb IX KL BD
            go_wp2
            go_roundw
            case rel => exact ⟨j + 1, by omega, by go_num, HB.out, HL.out, RO.out, RZ.out, RU.out⟩
            case measure => simp [intOf]; omega
          · have ej : j = ls.length := by omega
            subst ej
            clear hj hlt
            have h0 : ¬ (nN : Int) < 0 := by omega
            have h1 : ¬ 4096 < (nN : Int) := by have := HN.out; omega
            have EZ : (leadI (List.replicate nN 0) == 0) = true := by rw [lead_noughts]; rfl
            go_wp2_with fail
            refine (iszero_any _ (List.replicate nN 0) _ (RZ.out.ints2 (List.length_replicate) HN.out)).mono ?_
            rintro e w6 ⟨rfl, hb⟩
            rw [EZ]
            replace HB := hide (HB.out.trans ((hb).mono HB.out.size))
            replace HL := hide (HL.out.below hb)
            replace RZ := hide (RZ.out.step hb)
            replace RU := hide (RU.out.step hb)
            replace RO := hide (RO.out.step hb)
            clear hb EZ h0 h1
            have h0 : ¬ (kN : Int) < 0 := by omega
            have h1 : ¬ (nN : Int) ≤ (kN : Int) := by have := HK.out; omega
            have hkn := HK.out
            obtain ⟨s, m, l, c, e1, e2, e3⟩ := RU.out.cells kN (by simpa using HK.out)
            rw [show ((List.replicate nN (0 : Int)).set kN 1).getD kN 0 = 1 by simp [hkn]] at e3
            have IX := hide e3
            have C1 := hide (CellAt.mk e1)
            have C2 := hide (CellAt.mk e2)
            clear e1 e2 e3
            have EU : Hid ((leadI ((List.replicate nN (0 : Int)).set kN 1) == 0) = false) := hide (by rw [lead_unit nN kN HK.out]; rfl)
            go_wp2_with fail
            clear h0 h1
            refine wp_calm (fun w' => Below w.heap.size w w' ∧ IRow w' gu ((List.replicate nN (0 : Int)).set kN 1) ∧ CellAt w' ⟨gu, kN * 2, none⟩ (.bool s) ∧ CellAt w' ⟨gu, kN * 2 + 1, none⟩ (.slice m l c) ∧ IntAt w' (.agg #[.bool s, .slice m l c]) 1) (fun _ => true) 21 #[false, false, false, false, false, false, false, false, false, false, false, false, false, false, false, false, false, false, false, false, false] (by kernel_rfl) rfl rfl ?_
            have HF := hide (And.intro (HB.out.drew) (And.intro (RU.out.drew) (And.intro (C1.out.drew) (And.intro (C2.out.drew) (IX.out.drew)))))
            generalize w6.drew = w6d at *
            refine Calm.take (i := 0) (v := ?_) (a' := ?_) (l' := #[true, false, false, false, false, false, false, false, false, false, false, false, false, false, false, false, false, false, false, false, false]) (d := some 122) rfl (by kernel_rfl) (by kernel_rfl) (by kernel_rfl) (by kernel_rfl) (fun _ _ _ h => h) HF.out rfl ?_ rfl rfl ?_ ?_
            rotate_left
            · intro w' hF; clear hF; go_simp; try rfl
            rotate_left
            · simp only [Act.put]; exact rfl
            refine Calm.take (i := 1) (v := ?_) (a' := ?_) (l' := #[true, true, false, false, false, false, false, false, false, false, false, false, false, false, false, false, false, false, false, false, false]) (d := some 123) rfl (by kernel_rfl) (by kernel_rfl) (by kernel_rfl) (by kernel_rfl) (fun _ _ _ h => h) HF.out rfl ?_ rfl rfl ?_ ?_
            rotate_left
            · intro w' hF; clear hF; go_simp; try rfl
            rotate_left
            · simp only [Act.put]; exact rfl
            refine Calm.take (i := 2) (v := ?_) (a' := ?_) (l' := #[true, true, true, false, false, false, false, false, false, false, false, false, false, false, false, false, false, false, false, false, false]) (d := some 124) rfl (by kernel_rfl) (by kernel_rfl) (by kernel_rfl) (by kernel_rfl) (fun _ _ _ h => h) HF.out rfl ?_ rfl rfl ?_ ?_
            rotate_left
            · intro w' hF; clear hF; go_simp; try rfl
            rotate_left
            · simp only [Act.put]; exact rfl
            refine Calm.take (i := 3) (v := ?_) (a' := ?_) (l' := #[true, true, true, true, false, false, false, false, false, false, false, false, false, false, false, false, false, false, false, false, false]) (d := some 125) rfl (by kernel_rfl) (by kernel_rfl) (by kernel_rfl) (by kernel_rfl) (fun _ _ _ h => h) HF.out rfl ?_ rfl rfl ?_ ?_
            rotate_left
            · intro w' hF; clear hF; go_simp; try rfl
            rotate_left
            · simp only [Act.put]; exact rfl
            refine Calm.take (i := 4) (v := ?_) (a' := ?_) (l' := #[true, true, true, true, true, false, false, false, false, false, false, false, false, false, false, false, false, false, false, false, false]) (d := some 126) rfl (by kernel_rfl) (by kernel_rfl) (by kernel_rfl) (by kernel_rfl) (fun _ _ _ h => h) HF.out rfl ?_ rfl rfl ?_ ?_
            rotate_left
            · intro w' hF; clear hF; go_simp; try rfl
            rotate_left
            · simp only [Act.put]; exact rfl
            refine Calm.take (i := 5) (v := ?_) (a' := ?_) (l' := #[true, true, true, true, true, true, false, false, false, false, false, false, false, false, false, false, false, false, false, false, false]) (d := some 127) rfl (by kernel_rfl) (by kernel_rfl) (by kernel_rfl) (by kernel_rfl) (fun _ _ _ h => h) HF.out (by kernel_rfl) ?_ rfl rfl ?_ ?_
            rotate_left
            · intro w' hF; clear hF; go_simp; try rfl
            rotate_left
            · simp only [Act.put]; exact rfl
            refine Calm.take (i := 6) (v := ?_) (a' := ?_) (l' := #[true, true, true, true, true, true, true, false, false, false, false, false, false, false, false, false, false, false, false, false, false]) (d := some 128) rfl (by kernel_rfl) (by kernel_rfl) (by kernel_rfl) (by kernel_rfl) (fun _ _ _ h => h) HF.out (by kernel_rfl) ?_ rfl rfl ?_ ?_
            rotate_left
            · intro w' hF; clear hF; go_simp; try rfl
            rotate_left
            · simp only [Act.put]; exact rfl
            refine Calm.take (i := 7) (v := ?_) (a' := ?_) (l' := #[true, true, true, true, true, true, true, true, false, false, false, false, false, false, false, false, false, false, false, false, false]) (d := some 129) rfl (by kernel_rfl) (by kernel_rfl) (by kernel_rfl) (by kernel_rfl) (fun _ _ _ h => h) HF.out rfl ?_ rfl rfl ?_ ?_
            rotate_left
            · intro w' hF; clear hF; go_simp; try rfl
            rotate_left
            · simp only [Act.put]; exact rfl
            refine Calm.take (i := 8) (v := ?_) (a' := ?_) (l' := #[true, true, true, true, true, true, true, true, true, false, false, false, false, false, false, false, false, false, false, false, false]) (d := some 130) rfl (by kernel_rfl) (by kernel_rfl) (by kernel_rfl) (by kernel_rfl) (fun _ _ _ h => h) HF.out rfl ?_ rfl rfl ?_ ?_
            rotate_left
            · intro w' hF; clear hF; go_simp; try rfl
            rotate_left
            · simp only [Act.put]; exact rfl
            refine Calm.take (i := 9) (v := ?_) (a' := ?_) (l' := #[true, true, true, true, true, true, true, true, true, true, false, false, false, false, false, false, false, false, false, false, false]) (d := some 131) rfl (by kernel_rfl) (by kernel_rfl) (by kernel_rfl) (by kernel_rfl) (fun _ _ _ h => h) HF.out (by kernel_rfl) ?_ rfl rfl ?_ ?_
            rotate_left
            · intro w' hF; clear hF; go_simp; try rfl
            rotate_left
            · simp only [Act.put]; exact rfl
            refine Calm.take (i := 10) (v := ?_) (a' := ?_) (l' := #[true, true, true, true, true, true, true, true, true, true, true, false, false, false, false, false, false, false, false, false, false]) (d := some 132) rfl (by kernel_rfl) (by kernel_rfl) (by kernel_rfl) (by kernel_rfl) (fun _ _ _ h => h) HF.out (by kernel_rfl) ?_ rfl rfl ?_ ?_
            rotate_left
            · intro w' hF; clear hF; go_simp; try rfl
            rotate_left
            · simp only [Act.put]; exact rfl
            refine Calm.take (i := 11) (v := ?_) (a' := ?_) (l' := #[true, true, true, true, true, true, true, true, true, true, true, true, false, false, false, false, false, false, false, false, false]) (d := some 133) rfl (by kernel_rfl) (by kernel_rfl) (by kernel_rfl) (by kernel_rfl) (fun _ _ _ h => h) HF.out (by kernel_rfl) ?_ rfl rfl ?_ ?_
            rotate_left
            · intro w' hF; clear hF; go_simp; try rfl
            rotate_left
            · simp only [Act.put]; exact rfl
            refine Calm.take (i := 12) (v := ?_) (a' := ?_) (l' := #[true, true, true, true, true, true, true, true, true, true, true, true, true, false, false, false, false, false, false, false, false]) (d := some 134) rfl (by kernel_rfl) (by kernel_rfl) (by kernel_rfl) (by kernel_rfl) (fun _ _ _ h => h) HF.out (by kernel_rfl) ?_ rfl rfl ?_ ?_
            rotate_left
            · intro w' hF; have f20 := hF.2.2.1.out; have f30 := hF.2.2.2.1.out; clear hF; go_simp; try rfl
            rotate_left
            · simp only [Act.put]; exact rfl
            refine Calm.one (i := 13) (l' := #[true, true, true, true, true, true, true, true, true, true, true, true, true, true, false, false, false, false, false, false, false]) (by kernel_rfl) rfl (by kernel_rfl) rfl fun K hK => ?_
            go_simp
            refine (iof_any 1 _ (by decide) (by decide)).mono ?_
            rintro e u1 ⟨v, rfl, n1, hb⟩
            have HF' := hide (And.intro (HF.out.1.trans ((hb).mono HF.out.1.size)) (And.intro (HF.out.2.1.step (hb)) (And.intro (HF.out.2.2.1.step (hb)) (And.intro (HF.out.2.2.2.1.step (hb)) (HF.out.2.2.2.2.below (hb))))))
            have T1 := hide (n1)
            refine hK _ _ (fun _ => HF'.out) ?_
            clear hK K HF hb n1
            have HF := hide HF'.out
            clear HF'
            refine Calm.one (i := 14) (l' := #[true, true, true, true, true, true, true, true, true, true, true, true, true, true, true, false, false, false, false, false, false]) (by kernel_rfl) rfl (by kernel_rfl) rfl fun K hK => ?_
            go_simp
            refine (icmp_any _ _ 1 1 _ HF.out.2.2.2.2 T1.out).mono ?_
            rintro e u2 ⟨rfl, hb⟩
            rw [show cmpZ 1 1 = 0 from rfl]
            clear T1
            have HF' := hide (And.intro (HF.out.1.trans ((hb).mono HF.out.1.size)) (And.intro (HF.out.2.1.step (hb)) (And.intro (HF.out.2.2.1.step (hb)) (And.intro (HF.out.2.2.2.1.step (hb)) (HF.out.2.2.2.2.below (hb))))))
            refine hK _ _ (fun _ => HF'.out) ?_
            clear hK K HF hb
            have HF := hide HF'.out
            clear HF'
            refine Calm.take (i := 15) (v := ?_) (a' := ?_) (l' := #[true, true, true, true, true, true, true, true, true, true, true, true, true, true, true, true, false, false, false, false, false]) (d := some 137) rfl (by kernel_rfl) (by kernel_rfl) (by kernel_rfl) (by kernel_rfl) (fun _ _ _ h => h) HF.out (by kernel_rfl) ?_ rfl rfl ?_ ?_
            rotate_left
            · intro w' hF; clear hF; go_simp; try rfl
            rotate_left
            · simp only [Act.put]; exact rfl
            refine Calm.take (i := 16) (v := ?_) (a' := ?_) (l' := #[true, true, true, true, true, true, true, true, true, true, true, true, true, true, true, true, true, false, false, false, false]) (d := some 138) rfl (by kernel_rfl) (by kernel_rfl) (by kernel_rfl) (by kernel_rfl) (fun _ _ _ h => h) HF.out rfl ?_ rfl rfl ?_ ?_
            rotate_left
            · intro w' hF; clear hF; go_simp; try rfl
            rotate_left
            · simp only [Act.put]; exact rfl
            refine Calm.take (i := 17) (v := ?_) (a' := ?_) (l' := #[true, true, true, true, true, true, true, true, true, true, true, true, true, true, true, true, true, true, false, false, false]) (d := some 139) rfl (by kernel_rfl) (by kernel_rfl) (by kernel_rfl) (by kernel_rfl) (fun _ _ _ h => h) HF.out rfl ?_ rfl rfl ?_ ?_
            rotate_left
            · intro w' hF; clear hF; go_simp; try rfl
            rotate_left
            · simp only [Act.put]; exact rfl
            refine Calm.take (i := 18) (v := ?_) (a' := ?_) (l' := #[true, true, true, true, true, true, true, true, true, true, true, true, true, true, true, true, true, true, true, false, false]) (d := some 140) rfl (by kernel_rfl) (by kernel_rfl) (by kernel_rfl) (by kernel_rfl) (fun _ _ _ h => h) HF.out (by kernel_rfl) ?_ rfl rfl ?_ ?_
            rotate_left
            · intro w' hF; clear hF; go_simp; try rfl
            rotate_left
            · simp only [Act.put]; exact rfl
            refine Calm.one (i := 19) (l' := #[true, true, true, true, true, true, true, true, true, true, true, true, true, true, true, true, true, true, true, true, false]) (by kernel_rfl) rfl (by kernel_rfl) rfl fun K hK => ?_
            go_simp
            refine (iszero_any _ ((List.replicate nN (0 : Int)).set kN 1) _ (HF.out.2.1.ints2 (by simp) HN.out)).mono ?_
            rintro e u3 ⟨rfl, hb⟩
            rw [EU.out]
            have HF' := hide (And.intro (HF.out.1.trans ((hb).mono HF.out.1.size)) (And.intro (HF.out.2.1.step (hb)) (And.intro (HF.out.2.2.1.step (hb)) (And.intro (HF.out.2.2.2.1.step (hb)) (HF.out.2.2.2.2.below (hb))))))
            refine hK _ _ (fun _ => HF'.out) ?_
            clear hK K HF hb
            have HF := hide HF'.out
            clear HF'
            refine Calm.take (i := 20) (v := ?_) (a' := ?_) (l' := #[true, true, true, true, true, true, true, true, true, true, true, true, true, true, true, true, true, true, true, true, true]) (d := some 142) rfl (by kernel_rfl) (by kernel_rfl) (by kernel_rfl) (by kernel_rfl) (fun _ _ _ h => h) HF.out rfl ?_ rfl rfl ?_ ?_
            rotate_left
            · intro w' hF; clear hF; go_simp; try rfl
            rotate_left
            · simp only [Act.put]; exact rfl
            refine Calm.done (by kernel_rfl) ?_
            replace HB := hide HF.out.1
            replace RU := hide HF.out.2.1
            clear HF HL RO RZ C1 C2 IX EU
            go_wp2_with fail
            refine (iof_any 0 _ (by decide) (by decide)).mono ?_
            rintro e u4 ⟨v, rfl, n1, hb⟩
            obtain ⟨s', m', l', c', rfl, n1⟩ := n1.cells
            replace HB := hide (HB.out.trans (hb.mono HB.out.size))
            replace RU := hide (RU.out.step hb)
            have IV := hide n1
            clear hb n1
            obtain ⟨s0, m0, n0, c0, g1, g2, g3⟩ := RU.out.cells kN (by simpa using HK.out)
            have f1 := RU.out.free (kN * 2)
            have f2 := RU.out.free (kN * 2 + 1)
            clear g3
            go_wp2_with fail
            replace RU := hide (RU.out.put (by simpa using HK.out) IV.out)
            replace HB := hide (below_two HB.out GU.out (o := kN * 2) (p := kN * 2 + 1) (.bool s') (.slice m' l' c'))
            refine (iszero_any _ (((List.replicate nN (0 : Int)).set kN 1).set kN 0) _ (RU.out.ints2 (by simp) HN.out)).mono ?_
            rintro e u5 ⟨rfl, hb⟩
            rw [show (leadI (((List.replicate nN (0 : Int)).set kN 1).set kN 0) == 0) = true by rw [lead_unset]; rfl]
            replace HB := hide (HB.out.trans (hb.mono HB.out.size))
            clear hb g1 g2 f1 f2
            go_wp2
            go_ret
            exact ⟨rfl, HB.out⟩
end Go.Proofs.Ytaoagilngfgjbab
