/- Of 0: swagelaw02.is, zero; integer.Int's Bits and Twos. -/
import Derived.Test.YteogbhgogiaocaaDoorILimbs
import Derived.Test.YteogbhgogiaocaaDoorIPow
import Derived.Deep.Cut
namespace Go.Proofs.YteogbhgogiaocaaDoor
open Go.RowKit

theorem nums_noneI {w : World} {v : Value} (h : Nums w v []) : ∃ a c, v = .slice a 0 c := by
  obtain ⟨_, a, c, rfl, _⟩ := h
  exact ⟨a, c, rfl⟩
theorem int_none {w : World} {v : Value} (h : IntAt w v 0) : ∃ a c, v = .agg #[.bool false, .slice a 0 c] ∧ Nums w (.slice a 0 c) [] := by
  obtain ⟨b, n, a, c, rfl, hn, e1, h0⟩ := h
  have hz : n = 0 := by
    cases b with
    | true => rw [sg_true] at e1; omega
    | false => rw [sg_false] at e1; omega
  subst hz
  have hb := h0 rfl
  subst hb
  exact ⟨a, c, rfl, hn⟩
set_option maxRecDepth 100000 in
set_option maxHeartbeats 2000000 in
theorem rlimbs_none (w : World) : Calls Tryd.prog 62 #[.agg #[.bool false, .slice none 0 0]] w fun e w' => e = .returned (.slice none 0 0) ∧ Below w.heap.size w w' := by
  have HB := hide (below_alloc w (.cells #[.bool false, .slice none 0 0] 80))
  have P0 := hide (Box2.new w 80 (.bool false) (.slice none 0 0))
  go_enter Tryd.func62, Tryd.ntmps62
  go_upto_region 3 with fail
  generalize w.alloc (.cells #[.bool false, .slice none 0 0] 80) = w1 at *
  obtain ⟨B, hB⟩ : ∃ B, B = w.heap.size := ⟨_, rfl⟩
  rw [← hB] at P0 ⊢
  clear hB
  have p0 := P0.out.cell0
  have p1 := P0.out.cell1
  go_loopw [3, 4, 5] (fun lv iv _ wr => iv = .int .i64 0 ∧ lv = .slice none 0 0 ∧ wr = w1) (fun _ _ _ _ => 0)
  case atStart => exact ⟨rfl, rfl, rfl⟩
  case round =>
    obtain ⟨rfl, rfl, rfl⟩ := hrel
    go_wp2
    go_ret
    exact ⟨rfl, HB.out⟩
set_option maxRecDepth 100000 in
set_option maxHeartbeats 2000000 in
theorem is_none (v : Value) (w : World) (h : IntAt w v 0) :
    Calls Tryd.prog 39 #[v, .agg #[.bool false, .slice none 0 0]] w fun e w' => e = .returned (.bool true) ∧ Below w.heap.size w w' := by
  have I1 := hide h
  obtain ⟨a, c, rfl, _⟩ := int_none h
  clear h
  go_enter Tryd.func39, Tryd.ntmps39
  go_upto_region 1 with fail
  have hb := below_alloc w (.cells #[.bool false, .slice a 0 c] 25)
  have hb2 := below_alloc (w.alloc (.cells #[.bool false, .slice a 0 c] 25)) (.cells #[.bool false, .slice none 0 0] 80)
  have P0 := hide ((Box2.new w 25 (.bool false) (.slice a 0 c)).step hb2)
  have P1 := hide (Box2.new (w.alloc (.cells #[.bool false, .slice a 0 c] 25)) 80 (.bool false) (.slice none 0 0))
  rw [World.size_alloc] at P1
  replace I1 := hide ((I1.out.below hb).below hb2)
  have HB := hide (hb.trans (hb2.mono hb.size))
  clear hb hb2
  generalize (w.alloc (.cells #[.bool false, .slice a 0 c] 25)).alloc (.cells #[.bool false, .slice none 0 0] 80) = w1 at *
  obtain ⟨B, hB⟩ : ∃ B, B = w.heap.size := ⟨_, rfl⟩
  obtain ⟨C, hC⟩ : ∃ C, C = w.heap.size + 1 := ⟨_, rfl⟩
  rw [← hC] at P1 ⊢
  rw [← hB] at P0 ⊢
  clear hB hC
  have p0 := P0.out.cell0
  have p1 := P0.out.cell1
  go_wp2_with fail
  refine (ilimbs_any _ 0 _ I1.out (by decide)).mono ?_
  rintro e w2 ⟨l, rfl, hl, hb⟩
  obtain ⟨a2, c2, rfl⟩ := nums_noneI (show Nums w2 l [] from hl)
  rw [show decide ((0 : Int) < 0) = false from rfl]
  replace P1 := hide (P1.out.step hb)
  replace HB := hide (HB.out.trans (hb.mono HB.out.size))
  clear hb p0 p1 hl I1 P0
  have q0 := P1.out.cell0
  have q1 := P1.out.cell1
  go_wp2_with fail
  refine (rlimbs_none _).mono ?_
  rintro e w3 ⟨rfl, hb⟩
  replace P1 := hide (P1.out.step hb)
  replace HB := hide (HB.out.trans (hb.mono HB.out.size))
  clear hb q0 q1
  have q0 := P1.out.cell0
  have q1 := P1.out.cell1
  go_upto_region 6 with fail
  go_loopw [8] (fun iv wr => iv = .int .i64 0 ∧ wr = w3) (fun _ _ => 0)
  case atStart => exact ⟨rfl, rfl⟩
  case round =>
    obtain ⟨rfl, rfl⟩ := hrel
    go_wp2
    go_ret
    exact ⟨rfl, HB.out⟩
set_option maxRecDepth 100000 in
set_option maxHeartbeats 2000000 in
theorem zero_none (v : Value) (w : World) (h : IntAt w v 0) :
    Calls Tryd.prog 16 #[v] w fun e w' => e = .returned (.bool true) ∧ Below w.heap.size w w' := by
  have I1 := hide h
  obtain ⟨a, c, rfl, _⟩ := int_none h
  have P0 := hide (Box.new w (.bool false) (.slice a 0 c))
  have HB := hide (below_alloc w (.cells #[.bool false, .slice a 0 c] 25))
  replace I1 := hide (I1.out.below HB.out)
  clear h
  have p0 := P0.out.cell0
  have p1 := P0.out.cell1
  go_enter Tryd.func16, Tryd.ntmps16
  go_wp2_with fail
  refine (is_none _ _ I1.out).mono ?_
  rintro e w1 ⟨rfl, hb⟩
  replace HB := hide (HB.out.trans (hb.mono HB.out.size))
  replace P0 := hide (P0.out.step hb)
  replace I1 := hide (I1.out.below hb)
  clear hb p0 p1
  have p0 := P0.out.cell0
  have p1 := P0.out.cell1
  go_wp2_with fail
  refine (isign_any _ 0 _ I1.out).mono ?_
  rintro e w2 ⟨rfl, hb⟩
  replace HB := hide (HB.out.trans (hb.mono HB.out.size))
  clear hb p0 p1
  rw [show sgnI 0 = 0 from rfl]
  go_wp2
  go_ret
  exact ⟨rfl, HB.out⟩
set_option maxRecDepth 100000 in
set_option maxHeartbeats 2000000 in
theorem twos_noneI (v : Value) (w : World) (h : IntAt w v 0) :
    Calls Tryd.prog 14 #[v] w fun e w' => e = .returned (.int .i64 (-1)) ∧ Below w.heap.size w w' := by
  have I1 := hide h
  obtain ⟨a, c, rfl, _⟩ := int_none h
  have P0 := hide (Box.new w (.bool false) (.slice a 0 c))
  have HB := hide (below_alloc w (.cells #[.bool false, .slice a 0 c] 25))
  replace I1 := hide (I1.out.below HB.out)
  clear h
  have p0 := P0.out.cell0
  have p1 := P0.out.cell1
  go_enter Tryd.func14, Tryd.ntmps14
  go_wp2_with fail
  refine (isign_any _ 0 _ I1.out).mono ?_
  rintro e w2 ⟨rfl, hb⟩
  replace HB := hide (HB.out.trans (hb.mono HB.out.size))
  clear hb p0 p1
  rw [show sgnI 0 = 0 from rfl]
  go_wp2
  go_ret
  exact ⟨rfl, HB.out⟩
end Go.Proofs.YteogbhgogiaocaaDoor
