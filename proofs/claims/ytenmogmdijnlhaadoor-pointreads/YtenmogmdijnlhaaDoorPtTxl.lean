/- point.Text: the points' texts with a blank between two. -/
import Derived.Test.YtenmogmdijnlhaaDoorPtTx
import Derived.Laws.AppendOwn
namespace Go.Proofs.YtenmogmdijnlhaaDoor
open Go.RowKit

theorem cell_neP {w : World} {b o o' : Nat} {x : Value} (h : w.cell? ⟨b, o', none⟩ = some x) (hne : o ≠ o') (v : Value) : (w.setCell ⟨b, o, none⟩ v).cell? ⟨b, o', none⟩ = some x := by
  rw [World.cell?_setCell_other]
  · exact h
  · intro e; simp only [Addr.mk.injEq] at e; exact hne e.2.1
theorem cell_eqP {w : World} {a : Addr} {x : Value} (h : w.cell? a = some x) (v : Value) : (w.setCell a v).cell? a = some v := World.cell?_setCell_same' w a v (by rw [h]; rfl)
/-- block b holds these texts, and may be written into -/
structure SRowP (w : World) (b n : Nat) (f : Nat → ByteArray) : Prop where
  cells : ∀ i, i < n → w.cell? ⟨b, i, none⟩ = some (.string (f i))
  free : ∀ o, w.frozen? ⟨b, o, none⟩ = false
  lt : b < w.heap.size
theorem SRowP.step {w w' : World} {b n : Nat} {f : Nat → ByteArray} (h : SRowP w b n f) (hb : Below w.heap.size w w') : SRowP w' b n f :=
  ⟨fun i hi => (hb.cell h.lt).trans (h.cells i hi), fun o => (hb.frozen h.lt).trans (h.free o), Nat.lt_of_lt_of_le h.lt hb.size⟩
theorem SRowP.put {w : World} {b n k : Nat} {f : Nat → ByteArray} (h : SRowP w b n f) (hk : k < n) (s : ByteArray) : SRowP (w.setCell ⟨b, k, none⟩ (.string s)) b n (fun j => if j = k then s else f j) := by
  refine ⟨fun i hi => ?_, fun o => by rw [World.frozen?_setCell]; exact h.free o, by simpa using h.lt⟩
  by_cases e : i = k
  · subst e; rw [if_pos rfl]; exact cell_eqP (h.cells i hi) _
  · rw [if_neg e]; exact cell_neP (h.cells i hi) (Ne.symm e) _
theorem Tryd.infoStrBP : (Tryd.prog.info? 9).map (fun i => (i.zero, i.size, i.bytes)) = some (some (.string ByteArray.empty), 1, 16) := by kernel_rfl
theorem run_makeSP (n : Nat) (hn : n ≤ 4000000000) (w : World) :
    (Instr.makeSlice 63 (.int .i64 n) (.int .i64 n)).run Tryd.prog w = .ok (.slice (some ⟨w.heap.size, 0, none⟩) n n) (w.alloc (.cells (madeCells #[.string ByteArray.empty] n) 9)) := by
  obtain ⟨i0, hi, hz0, hz1, hz2⟩ := info_parts Tryd.infoStrBP
  have hr := run_make (P := Tryd.prog) w 63 9 i0 (.string ByteArray.empty) Tryd.underlying63 hi hz0 .i64 .i64 n n (by omega) (Int.le_refl _) (by rw [hz2]; omega) (by omega)
  rw [hr]
  simp only [Int.toNat_natCast, hz1, Nat.mul_one]
  rfl
theorem SRowP.new (w : World) (n : Nat) : SRowP (w.alloc (.cells (madeCells #[.string ByteArray.empty] n) 9)) w.heap.size n (fun _ => ByteArray.empty) := by
  have hh : (w.alloc (.cells (madeCells #[.string ByteArray.empty] n) 9)).heap[w.heap.size]? = some (.cells (madeCells #[.string ByteArray.empty] n) 9 (0, 0)) := heap_alloc_new _ _
  have hlt : w.heap.size < (w.alloc (.cells (madeCells #[.string ByteArray.empty] n) 9)).heap.size := by simp
  generalize w.alloc (.cells (madeCells #[.string ByteArray.empty] n) 9) = W at *
  refine ⟨fun i hi => ?_, fun o => by unfold World.frozen?; simp only [hh]; simp, hlt⟩
  unfold World.cell?; simp only [hh]; simp [madeCells, hi, Nat.mod_one]
theorem join_rowP (b n : Nat) (f : Nat → ByteArray) (w : World) (hr : SRowP w b n f) (hn : n ≤ 4000000000) (hlen : (Lib.join ((List.range n).map fun i => (f i).data.toList) [32]).length ≤ 140737488355328) :
    Calls Tryd.prog 24 #[.slice (some ⟨b, 0, none⟩) n n, .string ⟨#[32]⟩] w fun e w' => e = .returned (.string ⟨(Lib.join ((List.range n).map fun i => (f i).data.toList) [32]).toArray⟩) ∧ Below w.heap.size w w' := by
  have e1 : ((List.range n).map f).length = n := by simp
  have e2 : ((List.range n).map f).map (fun x => x.data.toList) = (List.range n).map fun i => (f i).data.toList := by rw [List.map_map]; rfl
  have h := Tryd.strings_Join b 0 n ((List.range n).map f) ⟨#[32]⟩ w (fun j x hj => by
    rw [List.getElem?_map] at hj
    have hjn : j < n := by
      rcases Nat.lt_or_ge j n with h | h
      · exact h
      · rw [List.getElem?_eq_none (by simpa using h)] at hj; simp at hj
    rw [List.getElem?_range hjn] at hj
    simp only [Option.map_some, Option.some.injEq] at hj
    rw [Nat.zero_add, ← hj]
    exact hr.cells j hjn) hr.lt (by rw [e1]; omega) (by rw [e1]; exact Nat.le_refl _) (by rw [e2]; exact hlen)
  rw [e1, e2] at h
  exact h

theorem PtsAt.at {w : World} {a : Option Addr} {n cap : Nat} {ps : List (Int × Int)} (h : PtsAt w (.slice a n cap) ps) {i : Nat} (hi : i < ps.length) : ∃ b off, a = some ⟨b, off, none⟩ ∧ PtC w b (off + i * 2) (pA ps i) (pB ps i) := by
  obtain ⟨a', c', he, _, _, h3⟩ := h
  simp only [Value.slice.injEq] at he
  obtain ⟨rfl, _, rfl⟩ := he
  obtain ⟨b, off, rfl, h⟩ := h3 (by intro e; rw [e] at hi; simp at hi)
  exact ⟨b, off, rfl, h i hi⟩
def ptxs (ps : List (Int × Int)) : ByteArray := ⟨(Lib.join (ps.map fun p => (ptx p.1 p.2).data.toList) [32]).toArray⟩
def ptTo (ps : List (Int × Int)) (k : Nat) : Nat → ByteArray := fun j => if j < k then ptx (pA ps j) (pB ps j) else ByteArray.empty
theorem ptTo_put (ps : List (Int × Int)) (k : Nat) : (fun j => if j = k then ptx (pA ps k) (pB ps k) else ptTo ps k j) = ptTo ps (k + 1) := by
  funext j
  unfold ptTo
  by_cases h : j = k
  · subst h; rw [if_pos rfl, if_pos (by omega)]
  · rw [if_neg h]
    by_cases h2 : j < k
    · rw [if_pos h2, if_pos (by omega)]
    · rw [if_neg h2, if_neg (by omega)]
/-- the coordinates are Go's numbers -/
def PtsW (ps : List (Int × Int)) : Prop := ∀ i, (-9223372036854775808 ≤ pA ps i ∧ pA ps i ≤ 9223372036854775807) ∧ (-9223372036854775808 ≤ pB ps i ∧ pB ps i ≤ 9223372036854775807)
set_option maxRecDepth 100000 in
set_option maxHeartbeats 4000000 in
theorem ptxs_any (va : Value) (ps : List (Int × Int)) (w : World) (h : PtsAt w va ps) (hw : PtsW ps) (hm : ps.length ≤ 4000000000) (hlen : (Lib.join (ps.map fun p => (ptx p.1 p.2).data.toList) [32]).length ≤ 140737488355328) (hT : P10 w) :
    Calls Tryd.prog 14 #[va] w fun e w' => e = .returned (.string (ptxs ps)) ∧ Below w.heap.size w w' := by
  have HI := hide h
  have HS := hide hw
  have HL := hide hlen
  have TT := hide hT
  obtain ⟨a, cap, rfl, hcap, hmx, _⟩ := h
  have hmk := run_makeSP ps.length hm
  have HR := hide (SRowP.new w ps.length)
  have HB := hide (below_alloc w (.cells (madeCells #[.string ByteArray.empty] ps.length) 9))
  unfold maxLen at hmx
  clear hw hlen hT
  go_enter Tryd.func14, Tryd.ntmps14
  go_wp2
  go_loopw [4, 5, 11] (fun _ _ iv wr => ∃ k : Nat, k ≤ ps.length ∧ iv = .int .i64 k ∧ Below w.heap.size w wr ∧ SRowP wr w.heap.size ps.length (ptTo ps k)) (fun _ _ iv _ => ps.length - (intOf iv).toNat)
  case atStart => exact ⟨0, Nat.zero_le _, rfl, HB.out, HR.out⟩
  case round =>
    obtain ⟨k, hk, rfl, hbel, hrow⟩ := hrel
    clear HB HR
    have HB := hide hbel
    have HR := hide hrow
    clear hbel hrow hmk
    by_cases hlt : k < ps.length
    · obtain ⟨b, off, rfl, hc⟩ := (HI.out.below HB.out).at hlt
      have e1 := hc.cell0
      have e2 := hc.cell1
      have LZ := hide (HS.out k)
      have HZ := hide (ptTo_put ps k)
      have TW := hide (TT.out.below HB.out)
      clear hc
      generalize pA ps k = x at *
      generalize pB ps k = y at *
      have HA := hide (below_alloc wr (.cells #[.int .i64 x, .int .i64 y] 43))
      have PX := hide (Box2.new wr 43 (.int .i64 x) (.int .i64 y))
      have x0 := PX.out.cell0
      have x1 := PX.out.cell1
      go_wp2_with fail
      refine (ptx_any x y _ LZ.out.1.1 LZ.out.1.2 LZ.out.2.1 LZ.out.2.2 (TW.out.below HA.out)).mono ?_
      rintro e w1 ⟨rfl, hb⟩
      replace HR := hide ((HR.out.step HA.out).step hb)
      replace HB := hide ((HB.out.trans (HA.out.mono HB.out.size)).trans (hb.mono (HB.out.trans (HA.out.mono HB.out.size)).size))
      clear hb x0 x1 e1 e2 PX HA TW
      have g1 := HR.out.cells k hlt
      have f1 := HR.out.free k
      go_wp2
      go_roundw
      case rel => exact ⟨k + 1, by omega, by go_num, HB.out.setCell (Nat.le_refl _) _, by rw [← HZ.out]; exact HR.out.put hlt _⟩
      case measure => simp [intOf]; omega
    · have e : k = ps.length := by omega
      subst e
      have EJ : (List.range ps.length).map (fun i => (ptTo ps ps.length i).data.toList) = ps.map fun p => (ptx p.1 p.2).data.toList := by
        apply List.ext_getElem
        · simp
        · intro i h1 h2
          have hi : i < ps.length := by simpa using h1
          simp [ptTo, hi, pA, pB]
      have HJ := hide (join_rowP w.heap.size ps.length (ptTo ps ps.length) wr HR.out hm (by rw [EJ]; exact HL.out))
      rw [EJ] at HJ
      clear EJ
      go_wp2_with fail
      refine HJ.out.mono ?_
      rintro e w1 ⟨rfl, hb⟩
      replace HB := hide (HB.out.trans (hb.mono HB.out.size))
      clear hb
      go_wp2
      go_ret
      exact ⟨rfl, HB.out⟩
end Go.Proofs.YtenmogmdijnlhaaDoor
