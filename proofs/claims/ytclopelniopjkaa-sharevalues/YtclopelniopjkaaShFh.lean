/- share's firstHolders. -/
import Derived.Test.YtclopelniopjkaaShHd
import Derived.OwnWalk
import Derived.WalkSmall
namespace Go.Proofs.Ytclopelniopjkaa
open Go.RowKit

set_option maxRecDepth 100000 in
set_option maxHeartbeats 2000000 in
theorem firstHolders_any (v : Value) (vs : List Int) (w : World) (base B g m n : Nat) (D : DataW Unit) (s : ShS) (h : BookAt w base B g m n D s) (hv : IntsAt w v vs) (hl : vs.length ≤ 1000) (hh : s.held.length ≤ 1000) :
    Calls Try.prog 43 #[.pointer (some ⟨B, 0, none⟩), v] w fun e w' => (∃ g', e = .returned (.slice (some ⟨g', 0, none⟩) vs.length vs.length) ∧ IntRow w' g' (vs.map (hold s.held)) ∧ w.heap.size ≤ g') ∧ Below w.heap.size w w' := by
  have HK := hide h
  have HV := hide hv
  have HL := hide hl
  obtain ⟨a, cap, rfl, hcap, hm, _⟩ := id hv
  unfold maxLen at hm
  have hmk := run_makeN vs.length (by omega)
  clear h hv hl
  go_enter Try.func43, Try.ntmps43
  go_wp2
  go_step3
  go_upto_region 2 with fail
  have HB := hide (below_alloc w (.cells (madeCells #[.int .i64 0] vs.length) 3))
  have RX := hide (IntRow.new w vs.length)
  generalize w.alloc (.cells (madeCells #[.int .i64 0] vs.length) 3) = w1 at *
  obtain ⟨b, hb⟩ : ∃ b, b = w.heap.size := ⟨_, rfl⟩
  have ZB := hide hb
  rw [← hb] at RX ⊢
  clear hb hmk
  obtain ⟨f, hf⟩ : ∃ f : Nat → Int, f = fun j => hold s.held (ot vs j) := ⟨_, rfl⟩
  have HF := hide hf
  clear hf
  go_wp2
  try (go_step3; go_wp2)
  go_loopw [15, 6, 7, 8, 9] (fun kv _ _ _ _ wr => ∃ k : Nat, k ≤ vs.length ∧ kv = .int .i64 k ∧ Below w.heap.size w wr ∧ IntRow wr b (rowT f vs.length k)) (fun kv _ _ _ _ _ => vs.length - (intOf kv).toNat)
  case atStart => exact ⟨0, Nat.zero_le _, rfl, HB.out, by rw [rowT_zero]; exact RX.out⟩
  case round =>
    clear HB RX
    obtain ⟨k, hk, rfl, hb, hrx⟩ := hrel
    have HB := hide hb
    have RX := hide hrx
    clear hb hrx
    obtain ⟨wl, hwl⟩ : ∃ wl, wl = wr := ⟨_, rfl⟩
    subst hwl
    by_cases hlt : k < vs.length
    · obtain ⟨b1, o1, rfl, c1⟩ := IntsAt.at (HV.out.below HB.out) hlt
      have c0 := (HK.out.below HB.out).box.cell0
      obtain ⟨x, hx⟩ : ∃ x, x = ot vs k := ⟨_, rfl⟩
      rw [← hx] at c1
      have FK : Hid (f k = hold s.held x) := hide (by rw [HF.out, hx])
      have q1 : ∃ u, wl.cell? ⟨b, k, none⟩ = some u := ⟨_, RX.out.cell (by rw [rowT_len]; exact hlt)⟩
      obtain ⟨u, q1⟩ := q1
      have q2 := RX.out.free k
      have XX := hide hx
      clear hx
      have ROW := hide (HK.out.below HB.out).row
      go_wp2
      try (go_step3; go_wp2)
      go_loopw [25, 8, 9] (fun rv _ _ wq => ∃ r : Nat, r ≤ s.held.length ∧ rv = .int .i64 r ∧ wq = wl ∧ ∀ j, j < r → ot s.held j ≠ x) (fun rv _ _ _ => s.held.length - (intOf rv).toNat)
      case atStart => exact ⟨0, Nat.zero_le _, rfl, rfl, fun j hj => absurd hj (Nat.not_lt_zero _)⟩
      case round =>
        obtain ⟨r, hr, rfl, hwq, hno⟩ := hrel
        obtain rfl := hwq
        have NO := hide hno
        clear hno
        by_cases hlr : r < s.held.length
        · have r1 := ROW.out.cell hlr
          by_cases he : ot s.held r = x
          · have FR : Hid ((r : Int) = f k) := hide (by rw [FK.out, hold_at hlr he NO.out])
            rw [he] at r1
            clear he
            go_wp2
            go_roundw
            case rel =>
              refine ⟨k + 1, by omega, by go_num, HB.out.setCell (p := ⟨b, k, none⟩) (by have := ZB.out; show _ ≤ b; omega) _, ?_⟩
              have h1 := RX.out.set k (f k)
              rw [rowT_set] at h1
              first | exact h1 | (rw [FR.out]; exact h1) | (rw [← FR.out] at h1; exact h1)
            case measure => simp [intOf]; omega
          · obtain ⟨z, hz⟩ : ∃ z, z = ot s.held r := ⟨_, rfl⟩
            rw [← hz] at r1 he
            have ZZ := hide hz
            have HE := hide he
            have he' : (z == x) = false := by simpa using he
            clear hz he
            go_wp2
            go_roundw
            case rel =>
              refine ⟨r + 1, by omega, by go_num, by first | rfl | trivial, fun j hj => ?_⟩
              rcases Nat.lt_succ_iff_lt_or_eq.1 hj with l | rfl
              · exact NO.out j l
              · rw [← ZZ.out]; exact HE.out
            case measure => simp [intOf]; omega
        · have e : r = s.held.length := by omega
          subst e
          have FR : Hid ((-1 : Int) = f k) := hide (by rw [FK.out, hold_none NO.out])
          go_wp2
          go_roundw
          case rel =>
            refine ⟨k + 1, by omega, by go_num, HB.out.setCell (p := ⟨b, k, none⟩) (by have := ZB.out; show _ ≤ b; omega) _, ?_⟩
            have h1 := RX.out.set k (f k)
            rw [rowT_set] at h1
            first | exact h1 | (rw [FR.out]; exact h1) | (rw [← FR.out] at h1; exact h1)
          case measure => simp [intOf]; omega
    · have e : k = vs.length := by omega
      subst e
      go_wp2
      try rw [Exit.noGoto_ret]
      go_ret
      refine ⟨⟨b, rfl, ?_, Nat.le_of_eq ZB.out.symm⟩, HB.out⟩
      have := RX.out
      rw [rowT_full, HF.out] at this
      rw [← range_ot vs (hold s.held)]
      exact this
end Go.Proofs.Ytclopelniopjkaa
