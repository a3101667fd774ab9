/- order's seats: given, moved, registersOf. -/
import Derived.Test.YtheakienigmkhaaOrLv
import Derived.Test.YtheakienigmkhaaOrM2
import Derived.Test.YtheakienigmkhaaPgRaise
namespace Go.Proofs.Ytheakienigmkhaa
open Go.RowKit Go.Shelf

/-- of what is asked, in which seats it stands -/
def gvL (of l : List Int) : List Int := l.map (fun r => ot of r.toNat)
def gvK (of l : List Int) (k : Nat) : List Int := (List.range l.length).map (fun j => if j < k then ot of (ot l j).toNat else 0)
theorem gvK_len (of l : List Int) (k : Nat) : (gvK of l k).length = l.length := by simp [gvK]
theorem gvK_zero (of l : List Int) : gvK of l 0 = List.replicate l.length 0 := by
  apply List.ext_getElem
  · simp [gvK]
  · intro i h1 h2; simp [gvK]
theorem gvK_set (of l : List Int) (k : Nat) : (gvK of l k).set k (ot of (ot l k).toNat) = gvK of l (k + 1) := by
  apply List.ext_getElem
  · simp [gvK]
  · intro i h1 h2
    rw [List.getElem_set]
    split
    · next e => subst e; simp [gvK]
    · next e =>
      simp only [gvK, List.getElem_map, List.getElem_range]
      by_cases h : i < k
      · rw [if_pos h, if_pos (by omega)]
      · rw [if_neg h, if_neg (by omega)]
theorem gvK_all (of l : List Int) : gvK of l l.length = gvL of l := by
  apply List.ext_getElem
  · simp [gvK, gvL]
  · intro i h1 h2
    have h3 : i < l.length := by simpa [gvK] using h1
    simp [gvK, gvL, h3, ot]
set_option maxRecDepth 100000 in
set_option maxHeartbeats 4000000 in
theorem given_any (S gO gU m : Nat) (of l : List Int) (v : Value) (w : World) (hS : Box2 w S 98 (.slice (some ⟨gO, 0, none⟩) m m) (.slice (some ⟨gU, 0, none⟩) m m)) (hO : IArr w gO of) (hm : of.length = m) (hv : IntsAt w v l) (hl : l.length ≤ 1000) (hr : ∀ k, k < l.length → 0 ≤ ot l k ∧ ot l k < m) :
    Calls Try.prog 33 #[.pointer (some ⟨S, 0, none⟩), v] w fun e w' => ∃ g, e = .returned (.slice (some ⟨g, 0, none⟩) l.length l.length) ∧ w.heap.size ≤ g ∧ IArr w' g (gvL of l) ∧ Below w.heap.size w w' := by
  have SX := hide hS
  have OX := hide hO
  have VX := hide hv
  have HR := hide hr
  obtain ⟨a, c, rfl, _, _, _⟩ := hv
  clear hS hO hr
  have hmk := run_makeT l.length (by omega)
  go_enter Try.func33, Try.ntmps33
  go_upto_region 2 with fail
  have al := below_alloc w (.cells (intCells (List.replicate l.length 0)).toArray 3)
  have RW := hide (IArr.new w (List.replicate l.length 0))
  have HB := hide al
  have LS : Hid (S < w.heap.size ∧ gO < w.heap.size) := hide ⟨SX.out.lt, OX.out.lt⟩
  clear al hmk
  generalize w.alloc (.cells (intCells (List.replicate l.length 0)).toArray 3) = w1 at *
  obtain ⟨g, hg⟩ : ∃ g, g = w.heap.size := ⟨_, rfl⟩
  have GZ := hide hg
  rw [← hg] at RW HB LS ⊢
  clear hg
  rw [← gvK_zero of] at RW
  go_wp2
  go_loopw [6, 7, 13] (fun _ _ kv wr => ∃ k : Nat, k ≤ l.length ∧ kv = .int .i64 k ∧ IArr wr g (gvK of l k) ∧ Below g w wr) (fun _ _ kv _ => l.length - (intOf kv).toNat)
  case atStart => exact ⟨0, Nat.zero_le _, rfl, RW.out, HB.out⟩
  case round =>
    clear RW HB
    obtain ⟨k, hk, rfl, hrw, hb⟩ := hrel
    have RW := hide hrw
    have HB := hide hb
    clear hrw hb
    obtain ⟨wl, hwl⟩ : ∃ wl, wl = wr := ⟨_, rfl⟩
    subst hwl
    by_cases hlt : k < l.length
    · obtain ⟨b, off, rfl, k1⟩ := (VX.out.below (by have := HB.out; rw [GZ.out] at this; exact this)).at hlt
      obtain ⟨g1, g2⟩ := HR.out k hlt
      have KS := hide (gvK_set of l k)
      obtain ⟨q, hq⟩ : ∃ q, q = ot l k := ⟨_, rfl⟩
      rw [← hq] at k1 g1 g2 KS
      clear hq
      obtain ⟨t, rfl⟩ := Int.eq_ofNat_of_zero_le g1
      have tl : t < of.length := by omega
      have tm : t < m := by omega
      have c0 := (SX.out.below HB.out LS.out.1).cell0
      have cO := (OX.out.under HB.out LS.out.2).cell tl
      have kl : k < (gvK of l k).length := by rw [gvK_len]; exact hlt
      have fk := RW.out.free k
      have ck := RW.out.cell kl
      rw [Int.toNat_natCast] at KS
      clear g1 g2
      have R2 := hide (RW.out.set k (ot of t))
      have B2 := hide (HB.out.setCell (p := ⟨g, k, none⟩) (Nat.le_refl _) (.int .i64 (ot of t)))
      rw [KS.out] at R2
      go_wp2
      go_roundw
      case rel => exact ⟨k + 1, by omega, by go_num, R2.out, B2.out⟩
      case measure => simp [intOf]; omega
    · have e : k = l.length := by omega
      subst e
      have h := RW.out
      rw [gvK_all] at h
      go_wp2
      go_ret
      exact ⟨g, rfl, by rw [GZ.out]; exact Nat.le_refl _, h, by have := HB.out; rw [GZ.out] at this; exact this⟩

set_option maxRecDepth 100000 in
set_option maxHeartbeats 4000000 in
/-- an instruction with other registers -/
theorem moved_one (i : Ins) (t x : Int) (gA : Nat) (w : World) (hA : IArr w gA [x]) :
    Calls Try.prog 55 #[.agg #[.int .i64 i.op, .int .i64 i.to, .int .i64 i.a, .int .i64 i.b, .int .i64 i.c], .int .i64 t, .slice (some ⟨gA, 0, none⟩) 1 1] w fun e w' => e = .returned (.agg #[.int .i64 i.op, .int .i64 t, .int .i64 x, .int .i64 i.b, .int .i64 i.c]) ∧ Below w.heap.size w w' := by
  have AX := hide hA
  clear hA
  go_enter Try.func55, Try.ntmps55
  go_upto_region 1 with fail
  have b1 := below_alloc w (.cells #[.int .i64 i.op, .int .i64 i.to, .int .i64 i.a, .int .i64 i.b, .int .i64 i.c] 40)
  have b2 := below_alloc (w.alloc (.cells #[.int .i64 i.op, .int .i64 i.to, .int .i64 i.a, .int .i64 i.b, .int .i64 i.c] 40)) (.cells #[.int .i64 0, .int .i64 0, .int .i64 0, .int .i64 0, .int .i64 0] 40)
  have IX := hide (show Box5 ((w.alloc (.cells #[.int .i64 i.op, .int .i64 i.to, .int .i64 i.a, .int .i64 i.b, .int .i64 i.c] 40)).alloc (.cells #[.int .i64 0, .int .i64 0, .int .i64 0, .int .i64 0, .int .i64 0] 40)) w.heap.size 40 i from (Box5.new w 40 i).step b2)
  have RX := hide (show Box5 ((w.alloc (.cells #[.int .i64 i.op, .int .i64 i.to, .int .i64 i.a, .int .i64 i.b, .int .i64 i.c] 40)).alloc (.cells #[.int .i64 0, .int .i64 0, .int .i64 0, .int .i64 0, .int .i64 0] 40)) (w.alloc (.cells #[.int .i64 i.op, .int .i64 i.to, .int .i64 i.a, .int .i64 i.b, .int .i64 i.c] 40)).heap.size 40 ⟨0, 0, 0, 0, 0⟩ from Box5.new (w.alloc (.cells #[.int .i64 i.op, .int .i64 i.to, .int .i64 i.a, .int .i64 i.b, .int .i64 i.c] 40)) 40 ⟨0, 0, 0, 0, 0⟩)
  rw [World.size_alloc] at RX
  have HB := hide (b1.trans (b2.mono b1.size))
  have A2 := hide ((AX.out.step b1).step b2)
  clear b1 b2
  generalize (w.alloc (.cells #[.int .i64 i.op, .int .i64 i.to, .int .i64 i.a, .int .i64 i.b, .int .i64 i.c] 40)).alloc (.cells #[.int .i64 0, .int .i64 0, .int .i64 0, .int .i64 0, .int .i64 0] 40) = w1 at *
  obtain ⟨I, hI⟩ : ∃ I, I = w.heap.size := ⟨_, rfl⟩
  obtain ⟨R, hR⟩ : ∃ R, R = w.heap.size + 1 := ⟨_, rfl⟩
  have GR : Hid (w.heap.size ≤ R) := hide (by omega)
  have GI : Hid (w.heap.size ≤ I) := hide (by omega)
  have NIR : Hid (I ≠ R) := hide (by omega)
  rw [← hI] at IX
  rw [← hR] at RX
  rw [← hR, ← hI]
  clear hI hR
  have a0 := A2.out.cell (k := 0) (by simp)
  try rw [show ot [x] 0 = x from rfl] at a0
  try rw [show ot [x, y] 0 = x from rfl] at a0
  have NA1 := hide (A2.out.ne_cells IX.out (by decide))
  have f1 := IX.out.free 1
  have f2 := IX.out.free 2
  have y1 := IX.out.cells.cell1
  have y2 := IX.out.cells.cell2
  simp only [Nat.zero_add] at y1 y2
  go_region
  have IX1 := hide ((IX.out.set1 t).set2 x).drew
  have RX1 := hide ((RX.out.set_ne (C := I) (o := 1) NIR.out (.int .i64 t)).set_ne (C := I) (o := 2) NIR.out (.int .i64 x)).drew
  have HB1 := hide ((HB.out.setCell (p := ⟨I, 1, none⟩) GI.out (.int .i64 t)).setCell (p := ⟨I, 2, none⟩) GI.out (.int .i64 x)).drew
  have A3 := hide ((A2.out.other (o := 1) (Ne.symm NA1.out) (.int .i64 t)).other (o := 2) (Ne.symm NA1.out) (.int .i64 x)).drew
  dsimp only at IX1
  clear IX RX HB A2 a0 f1 f2 y1 y2
  generalize ((w1.setCell ⟨I, 1, none⟩ (.int .i64 t)).setCell ⟨I, 2, none⟩ (.int .i64 x)).drew = w2 at *
  have y0 := IX1.out.cells.cell0
  have y1 := IX1.out.cells.cell1
  have y2 := IX1.out.cells.cell2
  have y3 := IX1.out.cells.cell3
  have y4 := IX1.out.cells.cell4
  simp only [Nat.zero_add] at y1 y2 y3 y4
  have r0 := RX1.out.free 0
  have r1 := RX1.out.free 1
  have r2 := RX1.out.free 2
  have r3 := RX1.out.free 3
  have r4 := RX1.out.free 4
  have z0 := RX1.out.cells.cell0
  have z1 := RX1.out.cells.cell1
  have z2 := RX1.out.cells.cell2
  have z3 := RX1.out.cells.cell3
  have z4 := RX1.out.cells.cell4
  simp only [Nat.zero_add] at z1 z2 z3 z4
  go_wp2
  refine ret_ins rfl R ⟨i.op, t, x, i.b, i.c⟩ rfl (RX1.out.put ⟨i.op, t, x, i.b, i.c⟩) rfl ⟨rfl, ?_⟩
  have h0 := HB1.out
  exact ((((h0.setCell (p := ⟨R, 0, none⟩) GR.out _).setCell (p := ⟨R, 1, none⟩) GR.out _).setCell (p := ⟨R, 2, none⟩) GR.out _).setCell (p := ⟨R, 3, none⟩) GR.out _).setCell (p := ⟨R, 4, none⟩) GR.out _
set_option maxRecDepth 100000 in
set_option maxHeartbeats 4000000 in
theorem moved_two (i : Ins) (t x y : Int) (gA : Nat) (w : World) (hA : IArr w gA [x, y]) :
    Calls Try.prog 55 #[.agg #[.int .i64 i.op, .int .i64 i.to, .int .i64 i.a, .int .i64 i.b, .int .i64 i.c], .int .i64 t, .slice (some ⟨gA, 0, none⟩) 2 2] w fun e w' => e = .returned (.agg #[.int .i64 i.op, .int .i64 t, .int .i64 x, .int .i64 y, .int .i64 i.c]) ∧ Below w.heap.size w w' := by
  have AX := hide hA
  clear hA
  go_enter Try.func55, Try.ntmps55
  go_upto_region 1 with fail
  have b1 := below_alloc w (.cells #[.int .i64 i.op, .int .i64 i.to, .int .i64 i.a, .int .i64 i.b, .int .i64 i.c] 40)
  have b2 := below_alloc (w.alloc (.cells #[.int .i64 i.op, .int .i64 i.to, .int .i64 i.a, .int .i64 i.b, .int .i64 i.c] 40)) (.cells #[.int .i64 0, .int .i64 0, .int .i64 0, .int .i64 0, .int .i64 0] 40)
  have IX := hide (show Box5 ((w.alloc (.cells #[.int .i64 i.op, .int .i64 i.to, .int .i64 i.a, .int .i64 i.b, .int .i64 i.c] 40)).alloc (.cells #[.int .i64 0, .int .i64 0, .int .i64 0, .int .i64 0, .int .i64 0] 40)) w.heap.size 40 i from (Box5.new w 40 i).step b2)
  have RX := hide (show Box5 ((w.alloc (.cells #[.int .i64 i.op, .int .i64 i.to, .int .i64 i.a, .int .i64 i.b, .int .i64 i.c] 40)).alloc (.cells #[.int .i64 0, .int .i64 0, .int .i64 0, .int .i64 0, .int .i64 0] 40)) (w.alloc (.cells #[.int .i64 i.op, .int .i64 i.to, .int .i64 i.a, .int .i64 i.b, .int .i64 i.c] 40)).heap.size 40 ⟨0, 0, 0, 0, 0⟩ from Box5.new (w.alloc (.cells #[.int .i64 i.op, .int .i64 i.to, .int .i64 i.a, .int .i64 i.b, .int .i64 i.c] 40)) 40 ⟨0, 0, 0, 0, 0⟩)
  rw [World.size_alloc] at RX
  have HB := hide (b1.trans (b2.mono b1.size))
  have A2 := hide ((AX.out.step b1).step b2)
  clear b1 b2
  generalize (w.alloc (.cells #[.int .i64 i.op, .int .i64 i.to, .int .i64 i.a, .int .i64 i.b, .int .i64 i.c] 40)).alloc (.cells #[.int .i64 0, .int .i64 0, .int .i64 0, .int .i64 0, .int .i64 0] 40) = w1 at *
  obtain ⟨I, hI⟩ : ∃ I, I = w.heap.size := ⟨_, rfl⟩
  obtain ⟨R, hR⟩ : ∃ R, R = w.heap.size + 1 := ⟨_, rfl⟩
  have GR : Hid (w.heap.size ≤ R) := hide (by omega)
  have GI : Hid (w.heap.size ≤ I) := hide (by omega)
  have NIR : Hid (I ≠ R) := hide (by omega)
  rw [← hI] at IX
  rw [← hR] at RX
  rw [← hR, ← hI]
  clear hI hR
  have a0 := A2.out.cell (k := 0) (by simp)
  try rw [show ot [x] 0 = x from rfl] at a0
  try rw [show ot [x, y] 0 = x from rfl] at a0
  have NA1 := hide (A2.out.ne_cells IX.out (by decide))
  have f1 := IX.out.free 1
  have f2 := IX.out.free 2
  have y1 := IX.out.cells.cell1
  have y2 := IX.out.cells.cell2
  simp only [Nat.zero_add] at y1 y2
  go_region
  have IX1 := hide ((IX.out.set1 t).set2 x).drew
  have RX1 := hide ((RX.out.set_ne (C := I) (o := 1) NIR.out (.int .i64 t)).set_ne (C := I) (o := 2) NIR.out (.int .i64 x)).drew
  have HB1 := hide ((HB.out.setCell (p := ⟨I, 1, none⟩) GI.out (.int .i64 t)).setCell (p := ⟨I, 2, none⟩) GI.out (.int .i64 x)).drew
  have A3 := hide ((A2.out.other (o := 1) (Ne.symm NA1.out) (.int .i64 t)).other (o := 2) (Ne.symm NA1.out) (.int .i64 x)).drew
  dsimp only at IX1
  clear IX RX HB A2 a0 f1 f2 y1 y2
  generalize ((w1.setCell ⟨I, 1, none⟩ (.int .i64 t)).setCell ⟨I, 2, none⟩ (.int .i64 x)).drew = w2 at *
  have a1 := A3.out.cell (k := 1) (by simp)
  rw [show ot [x, y] 1 = y from rfl] at a1
  have f3 := IX1.out.free 3
  have y3 := IX1.out.cells.cell3
  simp only [Nat.zero_add] at y3
  go_upto_region 4 with fail
  have IX2 := hide (IX1.out.set3 y)
  have RX2 := hide (RX1.out.set_ne (C := I) (o := 3) NIR.out (.int .i64 y))
  have HB2 := hide (HB1.out.setCell (p := ⟨I, 3, none⟩) GI.out (.int .i64 y))
  dsimp only at IX2
  clear IX1 RX1 HB1 A3 a1 f3 y3
  generalize w2.setCell ⟨I, 3, none⟩ (.int .i64 y) = w3 at *
  have y0 := IX2.out.cells.cell0
  have y1 := IX2.out.cells.cell1
  have y2 := IX2.out.cells.cell2
  have y3 := IX2.out.cells.cell3
  have y4 := IX2.out.cells.cell4
  simp only [Nat.zero_add] at y1 y2 y3 y4
  have r0 := RX2.out.free 0
  have r1 := RX2.out.free 1
  have r2 := RX2.out.free 2
  have r3 := RX2.out.free 3
  have r4 := RX2.out.free 4
  have z0 := RX2.out.cells.cell0
  have z1 := RX2.out.cells.cell1
  have z2 := RX2.out.cells.cell2
  have z3 := RX2.out.cells.cell3
  have z4 := RX2.out.cells.cell4
  simp only [Nat.zero_add] at z1 z2 z3 z4
  go_wp2
  refine ret_ins rfl R ⟨i.op, t, x, y, i.c⟩ rfl (RX2.out.put ⟨i.op, t, x, y, i.c⟩) rfl ⟨rfl, ?_⟩
  have h0 := HB2.out
  exact ((((h0.setCell (p := ⟨R, 0, none⟩) GR.out _).setCell (p := ⟨R, 1, none⟩) GR.out _).setCell (p := ⟨R, 2, none⟩) GR.out _).setCell (p := ⟨R, 3, none⟩) GR.out _).setCell (p := ⟨R, 4, none⟩) GR.out _
end Go.Proofs.Ytheakienigmkhaa
