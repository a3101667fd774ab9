/- rows of numbers in memory of one's own. Nothing of the program but its types. -/
import Derived.Test.YtapodkjmhenceaaISum
import Derived.Test.YtapodkjmhenceaaIVar
import Derived.Laws.MakeOwn
namespace Go.Proofs.Ytapodkjmhenceaa
open Go.RowKit

theorem cell_ne {w : World} {b o o' : Nat} {x : Value} (h : w.cell? ⟨b, o', none⟩ = some x) (hne : o ≠ o') (v : Value) : (w.setCell ⟨b, o, none⟩ v).cell? ⟨b, o', none⟩ = some x := by
  rw [World.cell?_setCell_other]
  · exact h
  · intro e; simp only [Addr.mk.injEq] at e; exact hne e.2.1
theorem cell_eq {w : World} {a : Addr} {x : Value} (h : w.cell? a = some x) (v : Value) : (w.setCell a v).cell? a = some v := World.cell?_setCell_same' w a v (by rw [h]; rfl)
/-- a cell of memory -/
structure CellAt (w : World) (a : Addr) (v : Value) : Prop where
  out : w.cell? a = some v
theorem CellAt.step {w w' : World} {a : Addr} {v : Value} (h : CellAt w a v) (hb : Below w.heap.size w w') : CellAt w' a v := ⟨(hb.cell (World.block_lt_of_cell? w _ h.out)).trans h.out⟩
theorem CellAt.drew {w : World} {a : Addr} {v : Value} (h : CellAt w a v) : CellAt w.drew a v := ⟨h.out⟩
theorem CellAt.put {w : World} {a : Addr} {v : Value} {B : Nat} (h : CellAt w a v) (hB : a.block ≠ B) (x y : Value) : CellAt ((w.setCell ⟨B, 0, none⟩ x).setCell ⟨B, 1, none⟩ y) a v := by
  refine ⟨?_⟩
  rw [World.cell?_setCell_other, World.cell?_setCell_other]
  · exact h.out
  · intro e; exact hB (by rw [← e])
  · intro e; exact hB (by rw [← e])
/-- element i of a list of numbers -/
theorem Ints.at {w : World} {a : Option Addr} {n cap : Nat} {zs : List Int} (h : Ints w (.slice a n cap) zs) {i : Nat} (hi : i < zs.length) :
    ∃ b off, a = some ⟨b, off, none⟩ ∧ ∃ s m l c, CellAt w ⟨b, off + i * 2, none⟩ (.bool s) ∧ CellAt w ⟨b, off + i * 2 + 1, none⟩ (.slice m l c) ∧ IntAt w (.agg #[.bool s, .slice m l c]) (zs.getD i 0) := by
  obtain ⟨a', c', he, _, _, h3⟩ := h
  simp only [Value.slice.injEq] at he
  obtain ⟨rfl, _, rfl⟩ := he
  obtain ⟨b, off, rfl, h⟩ := h3 (by intro e; rw [e] at hi; simp at hi)
  obtain ⟨s, m, c, l, k1, k2, k3⟩ := h i hi
  exact ⟨b, off, rfl, s, m, l, c, ⟨k1⟩, ⟨k2⟩, k3⟩
theorem Ints.len {w : World} {a : Option Addr} {n cap : Nat} {zs : List Int} (h : Ints w (.slice a n cap) zs) : n = zs.length ∧ n ≤ cap ∧ cap ≤ maxLen := by
  obtain ⟨a', c', he, h1, h2, _⟩ := h
  simp only [Value.slice.injEq] at he
  obtain ⟨_, rfl, rfl⟩ := he
  exact ⟨rfl, h1, h2⟩
/-- block b holds these numbers, and may be written into -/
structure IRow (w : World) (b : Nat) (zs : List Int) : Prop where
  cells : ∀ i, i < zs.length → ∃ s m n c, w.cell? ⟨b, i * 2, none⟩ = some (.bool s) ∧ w.cell? ⟨b, i * 2 + 1, none⟩ = some (.slice m n c) ∧ IntAt w (.agg #[.bool s, .slice m n c]) (zs.getD i 0)
  free : ∀ o, w.frozen? ⟨b, o, none⟩ = false
  lt : b < w.heap.size
theorem IRow.step {w w' : World} {b : Nat} {zs : List Int} (h : IRow w b zs) (hb : Below w.heap.size w w') : IRow w' b zs := by
  refine ⟨fun i hi => ?_, fun o => (hb.frozen h.lt).trans (h.free o), Nat.lt_of_lt_of_le h.lt hb.size⟩
  obtain ⟨s, m, n, c, h1, h2, h3⟩ := h.cells i hi
  exact ⟨s, m, n, c, (hb.cell h.lt).trans h1, (hb.cell h.lt).trans h2, h3.below hb⟩
theorem IRow.drew {w : World} {b : Nat} {zs : List Int} (h : IRow w b zs) : IRow w.drew b zs := ⟨h.cells, h.free, h.lt⟩
theorem IRow.ints {w : World} {b : Nat} {zs : List Int} (h : IRow w b zs) (hl : zs.length ≤ maxLen) : Ints w (.slice (some ⟨b, 0, none⟩) zs.length zs.length) zs := by
  refine ⟨_, _, rfl, Nat.le_refl _, hl, fun _ => ⟨b, 0, rfl, fun i hi => ?_⟩⟩
  obtain ⟨s, m, n, c, h1, h2, h3⟩ := h.cells i hi
  exact ⟨s, m, c, n, by rwa [Nat.zero_add], by rwa [Nat.zero_add], h3⟩
theorem IRow.spares {w : World} {b : Nat} {zs : List Int} (h : IRow w b zs) {i : Nat} (hi : i < zs.length) (x y : Value) : Spares w ((w.setCell ⟨b, i * 2, none⟩ x).setCell ⟨b, i * 2 + 1, none⟩ y) := by
  obtain ⟨s, m, n, c, h1, h2, h3⟩ := h.cells i hi
  exact (Spares.set h1 (by simp) x).trans (Spares.set (c := .slice m n c) (cell_ne h2 (by omega) x) (by simp) y)
theorem IRow.put {w : World} {b : Nat} {zs : List Int} (h : IRow w b zs) {i : Nat} (hi : i < zs.length) {s : Bool} {m : Option Addr} {n c : Nat} {z : Int} (hz : IntAt w (.agg #[.bool s, .slice m n c]) z) :
    IRow ((w.setCell ⟨b, i * 2, none⟩ (.bool s)).setCell ⟨b, i * 2 + 1, none⟩ (.slice m n c)) b (zs.set i z) := by
  have hk := h.spares hi (.bool s) (.slice m n c)
  obtain ⟨s0, m0, n0, c0, g1, g2, _⟩ := h.cells i hi
  refine ⟨fun j hj => ?_, fun o => by rw [World.frozen?_setCell, World.frozen?_setCell]; exact h.free o, by simpa using h.lt⟩
  rw [List.length_set] at hj
  by_cases e : j = i
  · subst e
    refine ⟨s, m, n, c, ?_, ?_, ?_⟩
    · exact cell_ne (cell_eq g1 _) (by omega) _
    · exact cell_eq (cell_ne g2 (by omega) _) _
    · rw [List.getD_eq_getElem?_getD, List.getElem?_set_self hj]; exact hz.keep hk
  · obtain ⟨s1, m1, n1, c1, h1, h2, h3⟩ := h.cells j hj
    refine ⟨s1, m1, n1, c1, ?_, ?_, ?_⟩
    · exact cell_ne (cell_ne h1 (by omega) _) (by omega) _
    · exact cell_ne (cell_ne h2 (by omega) _) (by omega) _
    · rw [List.getD_eq_getElem?_getD, List.getElem?_set_ne (Ne.symm e), ← List.getD_eq_getElem?_getD]; exact h3.keep hk
theorem below_two {B b o p : Nat} {w w' : World} (h : Below B w w') (hb : B ≤ b) (x y : Value) : Below B w ((w'.setCell ⟨b, o, none⟩ x).setCell ⟨b, p, none⟩ y) := (h.setCell hb x).setCell hb y
theorem int_nought (w : World) : IntAt w (.agg #[.bool false, .slice none 0 0]) 0 := ⟨false, 0, none, 0, rfl, by rw [lim_zero]; exact Nums.nil_mk _ _ _ (Nat.zero_le _), rfl, fun _ => rfl⟩
theorem IRow.new (w : World) (n : Nat) : IRow (w.alloc (.cells (madeCells #[.bool false, .slice none 0 0] (n * 2)) 31)) w.heap.size (List.replicate n 0) := by
  have hh : (w.alloc (.cells (madeCells #[.bool false, .slice none 0 0] (n * 2)) 31)).heap[w.heap.size]? = some (.cells (madeCells #[.bool false, .slice none 0 0] (n * 2)) 31 (0, 0)) := heap_alloc_new _ _
  have hlt : w.heap.size < (w.alloc (.cells (madeCells #[.bool false, .slice none 0 0] (n * 2)) 31)).heap.size := by simp
  generalize w.alloc (.cells (madeCells #[.bool false, .slice none 0 0] (n * 2)) 31) = W at *
  refine ⟨fun i hi => ?_, fun o => by unfold World.frozen?; simp only [hh]; simp, hlt⟩
  rw [List.length_replicate] at hi
  refine ⟨false, none, 0, 0, ?_, ?_, ?_⟩
  · unfold World.cell?; simp only [hh]; simp [madeCells, show i * 2 < n * 2 by omega]
  · unfold World.cell?; simp only [hh]; simp [madeCells, show i * 2 + 1 < n * 2 by omega, show (i * 2 + 1) % 2 = 1 by omega]
  · rw [List.getD_eq_getElem?_getD, List.getElem?_replicate, if_pos hi]; exact int_nought _
theorem Try.infoIntB : (Try.prog.info? 31).map (fun i => (i.zero, i.size, i.bytes)) = some (some (.agg #[.bool false, .slice none 0 0]), 2, 32) := by kernel_rfl
theorem run_makeI (n : Nat) (hn : n ≤ 4000000000) (w : World) :
    (Instr.makeSlice 40 (.int .i64 n) (.int .i64 n)).run Try.prog w = .ok (.slice (some ⟨w.heap.size, 0, none⟩) n n) (w.alloc (.cells (madeCells #[.bool false, .slice none 0 0] (n * 2)) 31)) := by
  obtain ⟨i0, hi, hz0, hz1, hz2⟩ := info_parts Try.infoIntB
  have hr := run_make (P := Try.prog) w 40 31 i0 (.agg #[.bool false, .slice none 0 0]) Try.underlying40 hi hz0 .i64 .i64 n n (by omega) (Int.le_refl _) (by rw [hz2]; omega) (by omega)
  rw [hr]
  simp only [Int.toNat_natCast, hz1]
  rfl
/-- of what f says the first k, noughts behind them -/
def rowTo (f : Nat → Int) (n k : Nat) : List Int := (List.range n).map fun j => if j < k then f j else 0
theorem rowTo_len (f : Nat → Int) (n k : Nat) : (rowTo f n k).length = n := by simp [rowTo]
theorem rowTo_zero (f : Nat → Int) (n : Nat) : rowTo f n 0 = List.replicate n 0 := by
  apply List.ext_getElem
  · simp [rowTo]
  · intro i h1 h2; simp [rowTo]
theorem rowTo_set (f : Nat → Int) (n k : Nat) : (rowTo f n k).set k (f k) = rowTo f n (k + 1) := by
  apply List.ext_getElem
  · simp [rowTo]
  · intro i h1 h2
    rw [List.getElem_set]
    split
    · next e => subst e; simp [rowTo]
    · next e => simp only [rowTo, List.getElem_map, List.getElem_range]; by_cases h : i < k
                · rw [if_pos h, if_pos (by omega)]
                · rw [if_neg h, if_neg (by omega)]
theorem rowTo_all (f : Nat → Int) (n : Nat) : rowTo f n n = (List.range n).map f := by
  apply List.ext_getElem
  · simp [rowTo]
  · intro i h1 h2
    have : i < n := by simpa [rowTo] using h1
    simp [rowTo, this]
end Go.Proofs.Ytapodkjmhenceaa
