/- prog.raised: an instruction all of whose registers are by so much more. -/
import Derived.Test.YtlbjkfnknkpkiaaDoorPgCopy
namespace Go.Proofs.YtlbjkfnknkpkiaaDoor
open Go.RowKit

def raiseI (i : Ins) (n : Int) : Ins := ⟨i.op, i.to + n, i.a + n, if twoB i.op then i.b + n else i.b, i.c⟩
theorem info_ins1 : (Tryd.prog.info? 36).map (·.size) = some 5 := by kernel_rfl
theorem Box5.free {W : World} {B : Nat} {t : TypeId} {i : Ins} (h : Box5 W B t i) (o : Nat) : W.frozen? ⟨B, o, none⟩ = false := by simp [World.frozen?, show W.heap[B]? = _ from h]
theorem ret_ins {fn : Func} {R : Ending → World → Prop} {a : Act} {w : World} {p : Tmp} (h : fn.results = #[.cell p 36]) (g : Nat) (i : Ins)
    (hp : a.tmps.getD p undef = .pointer (some ⟨g, 0, none⟩)) (hg : Box5 w g 36 i) (hd : a.defers = []) (hR : R (.returned (.agg #[.int .i64 i.op, .int .i64 i.to, .int .i64 i.a, .int .i64 i.b, .int .i64 i.c])) w) : bodyPost Tryd.prog fn R .ret a w := by
  refine bodyPost_ret ?_ hd hR
  have hp' : a.tmps[p]?.getD undef = .pointer (some ⟨g, 0, none⟩) := by simpa using hp
  simp [results, h, hp', asAddr, run_loadVar_row w g 36 36 i.vals (0, 0) _ hg Tryd.underlying36 rfl info_ins1, Ins.vals]
theorem Box5.set {W : World} {B : Nat} {t : TypeId} {i : Ins} (h : Box5 W B t i) (o : Nat) (c : Value) : (W.setCell ⟨B, o, none⟩ c).heap[B]? = some (.cells (i.vals.setIfInBounds o c) t (0, 0)) := by
  obtain ⟨hlt, hk⟩ := Array.getElem?_eq_some_iff.1 h
  show (W.heap.modify B _)[B]? = _
  rw [Array.getElem?_eq_getElem (by rw [Array.size_modify]; exact hlt), Array.getElem_modify_self, hk]
  rfl
theorem Box5.set0 {W : World} {B : Nat} {t : TypeId} {i : Ins} (h : Box5 W B t i) (n : Int) : Box5 (W.setCell ⟨B, 0, none⟩ (.int .i64 n)) B t ⟨n, i.to, i.a, i.b, i.c⟩ := h.set 0 _
theorem Box5.set1 {W : World} {B : Nat} {t : TypeId} {i : Ins} (h : Box5 W B t i) (n : Int) : Box5 (W.setCell ⟨B, 1, none⟩ (.int .i64 n)) B t ⟨i.op, n, i.a, i.b, i.c⟩ := h.set 1 _
theorem Box5.set2 {W : World} {B : Nat} {t : TypeId} {i : Ins} (h : Box5 W B t i) (n : Int) : Box5 (W.setCell ⟨B, 2, none⟩ (.int .i64 n)) B t ⟨i.op, i.to, n, i.b, i.c⟩ := h.set 2 _
theorem Box5.set3 {W : World} {B : Nat} {t : TypeId} {i : Ins} (h : Box5 W B t i) (n : Int) : Box5 (W.setCell ⟨B, 3, none⟩ (.int .i64 n)) B t ⟨i.op, i.to, i.a, n, i.c⟩ := h.set 3 _
theorem Box5.set4 {W : World} {B : Nat} {t : TypeId} {i : Ins} (h : Box5 W B t i) (n : Int) : Box5 (W.setCell ⟨B, 4, none⟩ (.int .i64 n)) B t ⟨i.op, i.to, i.a, i.b, n⟩ := h.set 4 _
theorem Box5.set_ne {W : World} {B C o : Nat} {t : TypeId} {i : Ins} (h : Box5 W B t i) (hne : C ≠ B) (c : Value) : Box5 (W.setCell ⟨C, o, none⟩ c) B t i := by
  show (W.heap.modify C _)[B]? = _
  rw [Array.getElem?_modify, if_neg hne]; exact h

set_option maxRecDepth 100000 in
set_option maxHeartbeats 4000000 in
theorem raised_any (i : Ins) (n : Int) (w : World) (h1 : 0 ≤ i.to) (h2 : i.to ≤ 1000) (h3 : 0 ≤ i.a) (h4 : i.a ≤ 1000) (h5 : 0 ≤ i.b) (h6 : i.b ≤ 1000) (h7 : 0 ≤ n) (h8 : n ≤ 1000) :
    Calls Tryd.prog 39 #[.agg #[.int .i64 i.op, .int .i64 i.to, .int .i64 i.a, .int .i64 i.b, .int .i64 i.c], .int .i64 n] w fun e w' => e = .returned (.agg #[.int .i64 (raiseI i n).op, .int .i64 (raiseI i n).to, .int .i64 (raiseI i n).a, .int .i64 (raiseI i n).b, .int .i64 (raiseI i n).c]) ∧ Below w.heap.size w w' := by
  go_enter Tryd.func39, Tryd.ntmps39
  go_upto_region 1 with fail
  have b1 := below_alloc w (.cells i.vals 36)
  have b2 := below_alloc (w.alloc (.cells i.vals 36)) (.cells zI.vals 36)
  have IX := hide ((Box5.new w 36 i).step b2)
  have RX := hide (Box5.new (w.alloc (.cells i.vals 36)) 36 zI)
  have HB := hide (b1.trans (b2.mono b1.size))
  rw [World.size_alloc] at RX
  clear b1 b2
  unfold Ins.vals zI at IX RX HB
  dsimp only at IX RX HB
  generalize (w.alloc (.cells #[.int .i64 i.op, .int .i64 i.to, .int .i64 i.a, .int .i64 i.b, .int .i64 i.c] 36)).alloc (.cells #[.int .i64 0, .int .i64 0, .int .i64 0, .int .i64 0, .int .i64 0] 36) = w1 at *
  obtain ⟨B, hB⟩ : ∃ B, B = w.heap.size := ⟨_, rfl⟩
  have HZ := hide hB
  rw [← hB] at IX RX ⊢
  clear hB
  obtain ⟨R, hR⟩ : ∃ R, R = B + 1 := ⟨_, rfl⟩
  have HR := hide hR
  rw [← hR] at RX ⊢
  clear hR
  have k0 := IX.out.cells.cell0
  have k1 := IX.out.cells.cell1
  have k2 := IX.out.cells.cell2
  have k3 := IX.out.cells.cell3
  have k4 := IX.out.cells.cell4
  simp only [Nat.zero_add] at k1 k2 k3 k4
  have f1 := IX.out.free 1
  go_upto_region 2 with fail
  clear k0 k1 k2 k3 k4 f1
  replace RX := hide (RX.out.set_ne (C := B) (o := 1) (by have := HR.out; omega) (.int .i64 (i.to + n)))
  replace IX := hide (IX.out.set1 (i.to + n))
  replace HB := hide (HB.out.setCell (p := ⟨B, 1, none⟩) (by have := HZ.out; show w.heap.size ≤ B; omega) (.int .i64 (i.to + n)))
  try dsimp only at IX
  generalize w1.setCell ⟨B, 1, none⟩ (.int .i64 (i.to + n)) = w2 at *
  have k0 := IX.out.cells.cell0
  have k1 := IX.out.cells.cell1
  have k2 := IX.out.cells.cell2
  have k3 := IX.out.cells.cell3
  have k4 := IX.out.cells.cell4
  simp only [Nat.zero_add] at k1 k2 k3 k4
  have f2 := IX.out.free 2
  go_upto_region 3 with fail
  clear k0 k1 k2 k3 k4 f2
  replace RX := hide (RX.out.set_ne (C := B) (o := 2) (by have := HR.out; omega) (.int .i64 (i.a + n)))
  replace IX := hide (IX.out.set2 (i.a + n))
  replace HB := hide (HB.out.setCell (p := ⟨B, 2, none⟩) (by have := HZ.out; show w.heap.size ≤ B; omega) (.int .i64 (i.a + n)))
  try dsimp only at IX
  generalize w2.setCell ⟨B, 2, none⟩ (.int .i64 (i.a + n)) = w3 at *
  have k0 := IX.out.cells.cell0
  have k1 := IX.out.cells.cell1
  have k2 := IX.out.cells.cell2
  have k3 := IX.out.cells.cell3
  have k4 := IX.out.cells.cell4
  simp only [Nat.zero_add] at k1 k2 k3 k4
  go_wp2_with fail
  refine (two_any i.op _).mono ?_
  rintro e w4 ⟨hw, rfl⟩
  obtain rfl : w3 = w4 := hw.symm
  clear hw k0 k1 k2 k3 k4
  cases ht : twoB i.op with
  | true =>
    have HT := hide ht
    clear ht
    have k0 := IX.out.cells.cell0
    have k1 := IX.out.cells.cell1
    have k2 := IX.out.cells.cell2
    have k3 := IX.out.cells.cell3
    have k4 := IX.out.cells.cell4
    simp only [Nat.zero_add] at k1 k2 k3 k4
    have f3 := IX.out.free 3
    go_upto_region 5 with fail
    clear k0 k1 k2 k3 k4 f3
    replace RX := hide (RX.out.set_ne (C := B) (o := 3) (by have := HR.out; omega) (.int .i64 (i.b + n)))
    replace IX := hide (IX.out.set3 (i.b + n))
    replace HB := hide (HB.out.setCell (p := ⟨B, 3, none⟩) (by have := HZ.out; show w.heap.size ≤ B; omega) (.int .i64 (i.b + n)))
    try dsimp only at IX
    generalize w3.setCell ⟨B, 3, none⟩ (.int .i64 (i.b + n)) = w5 at *
    have eI : (⟨i.op, i.to + n, i.a + n, i.b + n, i.c⟩ : Ins) = raiseI i n := by unfold raiseI; rw [HT.out]; rfl
    rw [eI] at IX
    clear eI
    obtain ⟨x, hx⟩ : ∃ x, x = raiseI i n := ⟨_, rfl⟩
    rw [← hx] at IX
    have HX := hide hx
    clear hx
    have k0 := IX.out.cells.cell0
    have k1 := IX.out.cells.cell1
    have k2 := IX.out.cells.cell2
    have k3 := IX.out.cells.cell3
    have k4 := IX.out.cells.cell4
    simp only [Nat.zero_add] at k1 k2 k3 k4
    have r0 := RX.out.cells.cell0
    have r1 := RX.out.cells.cell1
    have r2 := RX.out.cells.cell2
    have r3 := RX.out.cells.cell3
    have r4 := RX.out.cells.cell4
    simp only [Nat.zero_add] at r1 r2 r3 r4
    have g0 := RX.out.free 0
    have g1 := RX.out.free 1
    have g2 := RX.out.free 2
    have g3 := RX.out.free 3
    have g4 := RX.out.free 4
    go_wp2
    refine ret_ins rfl R x rfl (((((RX.out.set0 _).set1 _).set2 _).set3 _).set4 _) rfl ?_
    exact ⟨by rw [← HX.out], ((((HB.out.setCell (p := ⟨R, 0, none⟩) (by have := HZ.out; have := HR.out; show w.heap.size ≤ R; omega) _).setCell (p := ⟨R, 1, none⟩) (by have := HZ.out; have := HR.out; show w.heap.size ≤ R; omega) _).setCell (p := ⟨R, 2, none⟩) (by have := HZ.out; have := HR.out; show w.heap.size ≤ R; omega) _).setCell (p := ⟨R, 3, none⟩) (by have := HZ.out; have := HR.out; show w.heap.size ≤ R; omega) _).setCell (p := ⟨R, 4, none⟩) (by have := HZ.out; have := HR.out; show w.heap.size ≤ R; omega) _⟩
  | false =>
    have HT := hide ht
    clear ht
    have eI : (⟨i.op, i.to + n, i.a + n, i.b, i.c⟩ : Ins) = raiseI i n := by unfold raiseI; rw [HT.out]; rfl
    rw [eI] at IX
    clear eI
    obtain ⟨x, hx⟩ : ∃ x, x = raiseI i n := ⟨_, rfl⟩
    rw [← hx] at IX
    have HX := hide hx
    clear hx
    have k0 := IX.out.cells.cell0
    have k1 := IX.out.cells.cell1
    have k2 := IX.out.cells.cell2
    have k3 := IX.out.cells.cell3
    have k4 := IX.out.cells.cell4
    simp only [Nat.zero_add] at k1 k2 k3 k4
    have r0 := RX.out.cells.cell0
    have r1 := RX.out.cells.cell1
    have r2 := RX.out.cells.cell2
    have r3 := RX.out.cells.cell3
    have r4 := RX.out.cells.cell4
    simp only [Nat.zero_add] at r1 r2 r3 r4
    have g0 := RX.out.free 0
    have g1 := RX.out.free 1
    have g2 := RX.out.free 2
    have g3 := RX.out.free 3
    have g4 := RX.out.free 4
    go_wp2
    refine ret_ins rfl R x rfl (((((RX.out.set0 _).set1 _).set2 _).set3 _).set4 _) rfl ?_
    exact ⟨by rw [← HX.out], ((((HB.out.setCell (p := ⟨R, 0, none⟩) (by have := HZ.out; have := HR.out; show w.heap.size ≤ R; omega) _).setCell (p := ⟨R, 1, none⟩) (by have := HZ.out; have := HR.out; show w.heap.size ≤ R; omega) _).setCell (p := ⟨R, 2, none⟩) (by have := HZ.out; have := HR.out; show w.heap.size ≤ R; omega) _).setCell (p := ⟨R, 3, none⟩) (by have := HZ.out; have := HR.out; show w.heap.size ≤ R; omega) _).setCell (p := ⟨R, 4, none⟩) (by have := HZ.out; have := HR.out; show w.heap.size ≤ R; omega) _⟩
end Go.Proofs.YtlbjkfnknkpkiaaDoor
