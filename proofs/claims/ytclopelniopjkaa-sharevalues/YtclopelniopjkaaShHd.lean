/- share's valuesOf, firstHolders. -/
import Derived.Test.YtclopelniopjkaaShB
namespace Go.Proofs.Ytclopelniopjkaa
open Go.RowKit

/-- of what f says the first k, noughts behind them -/
def rowT (f : Nat → Int) (n k : Nat) : List Int := (List.range n).map fun j => if j < k then f j else 0
theorem rowT_len (f : Nat → Int) (n k : Nat) : (rowT f n k).length = n := by simp [rowT]
theorem rowT_zero (f : Nat → Int) (n : Nat) : rowT f n 0 = List.replicate n 0 := by
  apply List.ext_getElem
  · simp [rowT]
  · intro j h1 h2
    simp [rowT]
theorem rowT_set (f : Nat → Int) (n k : Nat) : (rowT f n k).set k (f k) = rowT f n (k + 1) := by
  apply List.ext_getElem
  · simp [rowT]
  · intro j h1 h2
    rw [List.getElem_set]
    simp only [rowT, List.getElem_map, List.getElem_range]
    split
    · rename_i e
      subst e
      rw [if_pos (by omega)]
    · rename_i e
      by_cases hj : j < k
      · rw [if_pos hj, if_pos (by omega)]
      · rw [if_neg hj, if_neg (by omega)]
theorem rowT_full (f : Nat → Int) (n : Nat) : rowT f n n = (List.range n).map f := by
  apply List.ext_getElem
  · simp [rowT]
  · intro j h1 h2
    have : j < n := by simpa [rowT] using h1
    simp [rowT, this]
theorem range_ot (l : List Int) (f : Int → Int) : (List.range l.length).map (fun j => f (ot l j)) = l.map f := by
  apply List.ext_getElem
  · simp
  · intro j h1 h2
    have : j < l.length := by simpa using h1
    simp [ot_lt this]

set_option maxRecDepth 100000 in
set_option maxHeartbeats 1000000 in
theorem valuesOf_any (v : Value) (rs : List Int) (w : World) (base B g m n : Nat) (D : DataW Unit) (s : ShS) (h : BookAt w base B g m n D s) (hv : IntsAt w v rs) (hl : rs.length ≤ 1000) (hr : ∀ j, j < rs.length → 0 ≤ ot rs j ∧ ot rs j < s.held.length) :
    Calls Try.prog 44 #[.pointer (some ⟨B, 0, none⟩), v] w fun e w' => (∃ g', e = .returned (.slice (some ⟨g', 0, none⟩) rs.length rs.length) ∧ IntRow w' g' (rs.map fun r => ot s.held r.toNat) ∧ w.heap.size ≤ g') ∧ Below w.heap.size w w' := by
  have HK := hide h
  have HR := hide hr
  have HV := hide hv
  have HL := hide hl
  obtain ⟨a, cap, rfl, hcap, hm, _⟩ := id hv
  unfold maxLen at hm
  have hmk := run_makeN rs.length (by omega)
  clear h hv hr hl
  go_enter Try.func44, Try.ntmps44
  go_upto_region 2 with fail
  have HB := hide (below_alloc w (.cells (madeCells #[.int .i64 0] rs.length) 3))
  have RX := hide (IntRow.new w rs.length)
  generalize w.alloc (.cells (madeCells #[.int .i64 0] rs.length) 3) = w1 at *
  obtain ⟨b, hb⟩ : ∃ b, b = w.heap.size := ⟨_, rfl⟩
  have ZB := hide hb
  rw [← hb] at RX ⊢
  clear hb hmk
  obtain ⟨f, hf⟩ : ∃ f : Nat → Int, f = fun j => ot s.held (ot rs j).toNat := ⟨_, rfl⟩
  have HF := hide hf
  clear hf
  go_wp2
  go_loopw [13, 6, 7] (fun kv _ _ wr => ∃ k : Nat, k ≤ rs.length ∧ kv = .int .i64 k ∧ Below w.heap.size w wr ∧ IntRow wr b (rowT f rs.length k)) (fun kv _ _ _ => rs.length - (intOf kv).toNat)
  case atStart => exact ⟨0, Nat.zero_le _, rfl, HB.out, by rw [rowT_zero]; exact RX.out⟩
  case round =>
    clear HB RX
    obtain ⟨k, hk, rfl, hb, hrx⟩ := hrel
    have HB := hide hb
    have RX := hide hrx
    clear hb hrx
    by_cases hlt : k < rs.length
    · obtain ⟨b1, o1, rfl, c1⟩ := IntsAt.at (HV.out.below HB.out) hlt
      have c0 := (HK.out.below HB.out).box.cell0
      obtain ⟨x, hx⟩ := Int.eq_ofNat_of_zero_le (HR.out k hlt).1
      have hxl : x < s.held.length := by have := (HR.out k hlt).2; omega
      have r1 := (HK.out.below HB.out).row.cell hxl
      have FK : Hid (f k = ot s.held x) := hide (by rw [HF.out]; show ot s.held (ot rs k).toNat = _; rw [hx]; rfl)
      rw [hx] at c1
      rw [← FK.out] at r1
      clear hx
      obtain ⟨fk, hfk⟩ : ∃ fk, fk = f k := ⟨_, rfl⟩
      rw [← hfk] at r1
      have FF := hide hfk
      clear hfk
      have q1 : ∃ u, wr.cell? ⟨b, k, none⟩ = some u := ⟨_, RX.out.cell (by rw [rowT_len]; exact hlt)⟩
      obtain ⟨u, q1⟩ := q1
      have q2 := RX.out.free k
      go_wp2
      go_roundw
      case rel =>
        refine ⟨k + 1, by omega, by go_num, HB.out.setCell (p := ⟨b, k, none⟩) (by have := ZB.out; show _ ≤ b; omega) _, ?_⟩
        have h1 := RX.out.set k fk
        rw [FF.out, rowT_set] at h1
        rw [FF.out]
        exact h1
      case measure => simp [intOf]; omega
    · have e : k = rs.length := by omega
      subst e
      go_wp2
      go_ret
      refine ⟨⟨b, rfl, ?_, Nat.le_of_eq ZB.out.symm⟩, HB.out⟩
      have := RX.out
      rw [rowT_full, HF.out] at this
      rw [← range_ot rs (fun r => ot s.held r.toNat)]
      exact this
end Go.Proofs.Ytclopelniopjkaa
