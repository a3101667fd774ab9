/- share's begin: the book ahead of a program's first instruction. -/
import Derived.Test.YtclopelniopjkaaShRk
import Derived.Test.YtclopelniopjkaaShHd
namespace Go.Proofs.Ytclopelniopjkaa
open Go.RowKit

theorem begS_held (p : Pg) (n : Nat) (h : p.regs = n) : (begS p).held = (List.range n).map (fun j : Nat => min (j : Int) p.ins) := by
  unfold begS
  rw [h]
  rfl
set_option maxRecDepth 100000 in
set_option maxHeartbeats 1000000 in
theorem begin_any (v : Value) (p : Pg) (w : World) (h : PgAt w v p) (hr : rightB p = true) :
    Calls Try.prog 40 #[v] w fun e w' => (∃ B g m, e = .returned (.pointer (some ⟨B, 0, none⟩)) ∧ BookAt w' w.heap.size B g m 0 (.map []) (begS p)) ∧ Below w.heap.size w w' := by
  obtain ⟨ins, regs, code, outs⟩ := p
  obtain ⟨p1, p2, p3, _⟩ := right_parts hr
  dsimp only at p1 p2 p3
  obtain ⟨n, rfl⟩ := Int.eq_ofNat_of_zero_le (show 0 ≤ regs by omega)
  have HS := hide (begS_held ⟨ins, n, code, outs⟩ n rfl)
  dsimp only at HS
  obtain ⟨ca, cc, oa, oc, rfl, _, _⟩ := h
  have hmk := run_makeN n (by omega)
  have hmm := @run_makeMap Try.prog
  have HN := hide (show n ≤ 128 by omega)
  have HI := hide (And.intro p1 (show ins ≤ 128 by omega))
  clear hr p1 p2 p3
  dsimp only
  go_enter Try.func40, Try.ntmps40
  go_upto_region 1 with fail
  have HB := hide (below_alloc w (.cells #[.int .i64 ins, .int .i64 (n : Int), .slice ca code.length cc, .slice oa outs.length oc] 25))
  have PX := hide (Box4.new w 25 (.int .i64 ins) (.int .i64 (n : Int)) (.slice ca code.length cc) (.slice oa outs.length oc))
  generalize w.alloc (.cells #[.int .i64 ins, .int .i64 (n : Int), .slice ca code.length cc, .slice oa outs.length oc] 25) = w1 at *
  obtain ⟨I, hI⟩ : ∃ I, I = w.heap.size := ⟨_, rfl⟩
  have ZI := hide hI
  rw [← hI] at PX ⊢
  clear hI
  have c0 := PX.out.cell0
  have c1 := PX.out.cell1
  go_upto_region 2 with fail
  have hb := below_alloc w1 (.cells (madeCells #[.int .i64 0] n) 3)
  have RX := hide (IntRow.new w1 n)
  replace PX := hide (PX.out.step hb)
  have GE := hide HB.out.size
  replace HB := hide (HB.out.trans (hb.mono HB.out.size))
  clear hb hmk c0 c1
  generalize w1.alloc (.cells (madeCells #[.int .i64 0] n) 3) = w2 at *
  generalize w1.heap.size = b at *
  obtain ⟨f, hf⟩ : ∃ f : Nat → Int, f = fun j : Nat => min (j : Int) ins := ⟨_, rfl⟩
  have HF := hide hf
  clear hf
  go_wp2
  go_loopw [10, 4] (fun kv _ wr => ∃ k : Nat, k ≤ n ∧ kv = .int .i64 k ∧ Below w.heap.size w wr ∧ IntRow wr b (rowT f n k) ∧ Box4 wr I 25 (.int .i64 ins) (.int .i64 (n : Int)) (.slice ca code.length cc) (.slice oa outs.length oc)) (fun kv _ _ => n - (intOf kv).toNat)
  case atStart => exact ⟨0, Nat.zero_le _, rfl, HB.out, by rw [rowT_zero]; exact RX.out, PX.out⟩
  case round =>
    clear HB RX PX
    obtain ⟨k, hk, rfl, hb, hrx, hpx⟩ := hrel
    have HB := hide hb
    have RX := hide hrx
    have PX := hide hpx
    clear hb hrx hpx
    have c0 := PX.out.cell0
    have hn := HN.out
    by_cases hlt : k < n
    · obtain ⟨u, q1⟩ : ∃ u, wr.cell? ⟨b, k, none⟩ = some u := ⟨_, RX.out.cell (by rw [rowT_len]; exact hlt)⟩
      have q2 := RX.out.free k
      have NE : b ≠ I := by
        intro e
        subst e
        exact absurd (cells_type RX.out PX.out) (by decide)
      go_wp2
      go_roundw
      case rel =>
        have e : (if ins < (k : Int) then ins else (k : Int)) = f k := by
          rw [HF.out]
          show _ = min (k : Int) ins
          rw [Int.min_def]
          split <;> split <;> omega
        refine ⟨k + 1, by omega, by go_num, HB.out.setCell (p := ⟨b, k, none⟩) GE.out _, ?_, PX.out.set_ne NE _⟩
        have h1 := RX.out.set k (f k)
        rw [rowT_set] at h1
        first | (rw [e]; exact h1) | (simp only [e]; exact h1)
      case measure => simp [intOf]; omega
    · have e : k = n := by omega
      subst e
      have hi2 := HI.out.2
      have hi1 := HI.out.1
      have LI := PX.out.lt
      go_wp2
      go_ret
      have RY := RX.out
      rw [rowT_full, HF.out] at RY
      have b1 := below_alloc wr (.map #[] 0)
      have hm := World.ownsMap_made wr Try.prog 102 entR
      have hz : (wr.alloc (.map #[] 0)).heap.size = wr.heap.size + 1 := World.size_alloc _ _
      have RY2 := RY.step b1
      have HB2 := HB.out.trans (b1.mono HB.out.size)
      generalize wr.alloc (.map #[] 0) = w5 at *
      have b2 := below_alloc w5 (.cells #[.slice (some ⟨b, 0, none⟩) k k, .map (some wr.heap.size), .int .i64 (ins + 1)] 86)
      refine ⟨⟨_, b, wr.heap.size, rfl, ?_, RY2.step b2 |> fun h => ?_, mapAt_below hm b2, BkMap.start, ?_⟩, HB2.trans (b2.mono HB2.size)⟩
      · have hl : (begS ⟨ins, (k : Int), code, outs⟩).held.length = k := by rw [HS.out]; simp
        rw [hl, ← hz]
        exact Box3.new _ _ _ _ _
      · rw [HS.out]
        exact h
      · have h1 := GE.out
        have h2 := HB.out.size
        exact ⟨by omega, h1, h2⟩
end Go.Proofs.Ytclopelniopjkaa
