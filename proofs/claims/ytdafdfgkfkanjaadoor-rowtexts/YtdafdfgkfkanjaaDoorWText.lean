/- row.Text: the numbers' texts with a blank between two. -/
import Derived.Test.YtdafdfgkfkanjaaDoorWReck
import Derived.Test.YtdafdfgkfkanjaaDoorIText
import Derived.Test.YtdafdfgkfkanjaaDoorShelf
namespace Go.Proofs.YtdafdfgkfkanjaaDoor
open Go.RowKit

/-- block b holds these texts, and may be written into -/
structure SRow (w : World) (b n : Nat) (f : Nat → ByteArray) : Prop where
  cells : ∀ i, i < n → w.cell? ⟨b, i, none⟩ = some (.string (f i))
  free : ∀ o, w.frozen? ⟨b, o, none⟩ = false
  lt : b < w.heap.size
theorem SRow.step {w w' : World} {b n : Nat} {f : Nat → ByteArray} (h : SRow w b n f) (hb : Below w.heap.size w w') : SRow w' b n f :=
  ⟨fun i hi => (hb.cell h.lt).trans (h.cells i hi), fun o => (hb.frozen h.lt).trans (h.free o), Nat.lt_of_lt_of_le h.lt hb.size⟩
theorem SRow.put {w : World} {b n k : Nat} {f : Nat → ByteArray} (h : SRow w b n f) (hk : k < n) (s : ByteArray) : SRow (w.setCell ⟨b, k, none⟩ (.string s)) b n (fun j => if j = k then s else f j) := by
  refine ⟨fun i hi => ?_, fun o => by rw [World.frozen?_setCell]; exact h.free o, by simpa using h.lt⟩
  by_cases e : i = k
  · subst e; rw [if_pos rfl]; exact cell_eq (h.cells i hi) _
  · rw [if_neg e]; exact cell_ne (h.cells i hi) (Ne.symm e) _
theorem Tryd.infoStrB : (Tryd.prog.info? 9).map (fun i => (i.zero, i.size, i.bytes)) = some (some (.string ByteArray.empty), 1, 16) := by kernel_rfl
theorem run_makeS (n : Nat) (hn : n ≤ 4000000000) (w : World) :
    (Instr.makeSlice 56 (.int .i64 n) (.int .i64 n)).run Tryd.prog w = .ok (.slice (some ⟨w.heap.size, 0, none⟩) n n) (w.alloc (.cells (madeCells #[.string ByteArray.empty] n) 9)) := by
  obtain ⟨i0, hi, hz0, hz1, hz2⟩ := info_parts Tryd.infoStrB
  have hr := run_make (P := Tryd.prog) w 56 9 i0 (.string ByteArray.empty) Tryd.underlying56 hi hz0 .i64 .i64 n n (by omega) (Int.le_refl _) (by rw [hz2]; omega) (by omega)
  rw [hr]
  simp only [Int.toNat_natCast, hz1, Nat.mul_one]
  rfl
theorem SRow.new (w : World) (n : Nat) : SRow (w.alloc (.cells (madeCells #[.string ByteArray.empty] n) 9)) w.heap.size n (fun _ => ByteArray.empty) := by
  have hh : (w.alloc (.cells (madeCells #[.string ByteArray.empty] n) 9)).heap[w.heap.size]? = some (.cells (madeCells #[.string ByteArray.empty] n) 9 (0, 0)) := heap_alloc_new _ _
  have hlt : w.heap.size < (w.alloc (.cells (madeCells #[.string ByteArray.empty] n) 9)).heap.size := by simp
  generalize w.alloc (.cells (madeCells #[.string ByteArray.empty] n) 9) = W at *
  refine ⟨fun i hi => ?_, fun o => by unfold World.frozen?; simp only [hh]; simp, hlt⟩
  unfold World.cell?; simp only [hh]; simp [madeCells, hi, Nat.mod_one]
theorem join_row (b n : Nat) (f : Nat → ByteArray) (w : World) (hr : SRow w b n f) (hn : n ≤ 4000000000) (hlen : (Lib.join ((List.range n).map fun i => (f i).data.toList) [32]).length ≤ 140737488355328) :
    Calls Tryd.prog 19 #[.slice (some ⟨b, 0, none⟩) n n, .string ⟨#[32]⟩] w fun e w' => e = .returned (.string ⟨(Lib.join ((List.range n).map fun i => (f i).data.toList) [32]).toArray⟩) ∧ Below w.heap.size w w' := by
  have e1 : ((List.range n).map f).length = n := by simp
  have e2 : ((List.range n).map f).map (fun x => x.data.toList) = (List.range n).map fun i => (f i).data.toList := by rw [List.map_map]; rfl
  have h := Tryd.strings_Join b 0 n ((List.range n).map f) ⟨#[32]⟩ w (fun j x hj => by
    rw [List.getElem?_map] at hj
    have hjn : j < n := by
      rcases Nat.lt_or_ge j n with h | h
      · exact h
      · rw [List.getElem?_eq_none (by simpa using h)] at hj; simp at hj
    rw [List.getElem?_range hjn] at hj
    simp only [Option.map_some, Option.some.injEq] at hj
    rw [Nat.zero_add, ← hj]
    exact hr.cells j hjn) hr.lt (by rw [e1]; omega) (by rw [e1]; exact Nat.le_refl _) (by rw [e2]; exact hlen)
  rw [e1, e2] at h
  exact h
/-- a row's text -/
def wtxt (zs : List Int) : ByteArray := (⟨#[91]⟩ ++ ⟨(Lib.join (zs.map fun z => (itxt z).data.toList) [32]).toArray⟩) ++ ⟨#[93]⟩
/-- the first k texts -/
def txTo (zs : List Int) (k : Nat) : Nat → ByteArray := fun j => if j < k then itxt (zs.getD j 0) else ByteArray.empty
theorem txTo_put (zs : List Int) (k : Nat) : (fun j => if j = k then itxt (zs.getD k 0) else txTo zs k j) = txTo zs (k + 1) := by
  funext j
  unfold txTo
  by_cases h : j = k
  · subst h; rw [if_pos rfl, if_pos (by omega)]
  · rw [if_neg h]
    by_cases h2 : j < k
    · rw [if_pos h2, if_pos (by omega)]
    · rw [if_neg h2, if_neg (by omega)]

set_option maxRecDepth 100000 in
set_option maxHeartbeats 4000000 in
theorem rtext_any (va : Value) (zs : List Int) (w : World) (h : Ints w va zs) (hm : zs.length ≤ 4000000000) (hs : ∀ i, (lim (zs.getD i 0).natAbs).length ≤ 1000000000) (hlen : (Lib.join (zs.map fun z => (itxt z).data.toList) [32]).length ≤ 140737488355328) :
    Calls Tryd.prog 9 #[va] w fun e w' => e = .returned (.string (wtxt zs)) ∧ Below w.heap.size w w' := by
  have HI := hide h
  have HS := hide hs
  have HL := hide hlen
  obtain ⟨a, cap, rfl, hcap, hmx, _⟩ := h
  have hmk := run_makeS zs.length hm
  have HR := hide (SRow.new w zs.length)
  have HB := hide (below_alloc w (.cells (madeCells #[.string ByteArray.empty] zs.length) 9))
  unfold maxLen at hmx
  clear hs hlen
  go_enter Tryd.func9, Tryd.ntmps9
  go_wp2
  go_loopw [4, 5, 11] (fun _ _ iv wr => ∃ k : Nat, k ≤ zs.length ∧ iv = .int .i64 k ∧ Below w.heap.size w wr ∧ SRow wr w.heap.size zs.length (txTo zs k)) (fun _ _ iv _ => zs.length - (intOf iv).toNat)
  case atStart => exact ⟨0, Nat.zero_le _, rfl, HB.out, HR.out⟩
  case round =>
    obtain ⟨k, hk, rfl, hbel, hrow⟩ := hrel
    clear HB HR
    have HB := hide hbel
    have HR := hide hrow
    clear hbel hrow hmk
    by_cases hlt : k < zs.length
    · obtain ⟨b, off, rfl, s, m, l, c, k1, k2, k3⟩ := (HI.out.below HB.out).at hlt
      have IX := hide k3
      have e1 := k1.out
      have e2 := k2.out
      have HA := hide (below_alloc wr (.cells #[.bool s, .slice m l c] 51))
      have PX := hide (Box.new wr (.bool s) (.slice m l c))
      have x0 := PX.out.cell0
      have x1 := PX.out.cell1
      have LZ := hide (HS.out k)
      have HZ := hide (txTo_put zs k)
      clear k1 k2 k3
      generalize zs.getD k 0 = z at *
      go_wp2_with fail
      refine (itext_any _ z _ (IX.out.below HA.out) LZ.out).mono ?_
      rintro e w1 ⟨rfl, hb⟩
      replace HR := hide ((HR.out.step HA.out).step hb)
      replace HB := hide ((HB.out.trans (HA.out.mono HB.out.size)).trans (hb.mono (HB.out.trans (HA.out.mono HB.out.size)).size))
      clear hb x0 x1 e1 e2 IX PX HA
      have g1 := HR.out.cells k hlt
      have f1 := HR.out.free k
      go_wp2
      go_roundw
      case rel => exact ⟨k + 1, by omega, by go_num, HB.out.setCell (Nat.le_refl _) _, by rw [← HZ.out]; exact HR.out.put hlt _⟩
      case measure => simp [intOf]; omega
    · have e : k = zs.length := by omega
      subst e
      have EJ : (List.range zs.length).map (fun i => (txTo zs zs.length i).data.toList) = zs.map fun z => (itxt z).data.toList := by
        apply List.ext_getElem
        · simp
        · intro i h1 h2
          have hi : i < zs.length := by simpa using h1
          simp [txTo, hi]
      have HJ := hide (join_row w.heap.size zs.length (txTo zs zs.length) wr HR.out hm (by rw [EJ]; exact HL.out))
      rw [EJ] at HJ
      have hsz : ¬ 9223372036854775807 < 1 + (Lib.join (zs.map fun z => (itxt z).data.toList) [32]).length := by have := HL.out; omega
      have hsz2 : ¬ 9223372036854775807 < 1 + (Lib.join (zs.map fun z => (itxt z).data.toList) [32]).length + 1 := by have := HL.out; omega
      have HW : Hid (wtxt zs = (⟨#[91]⟩ ++ ⟨(Lib.join (zs.map fun z => (itxt z).data.toList) [32]).toArray⟩) ++ ⟨#[93]⟩) := hide rfl
      clear EJ
      generalize Lib.join (zs.map fun z => (itxt z).data.toList) [32] = J at *
      go_wp2_with fail
      refine HJ.out.mono ?_
      rintro e w1 ⟨rfl, hb⟩
      replace HB := hide (HB.out.trans (hb.mono HB.out.size))
      clear hb
      go_wp2
      go_ret
      exact ⟨by rw [HW.out]; rfl, HB.out⟩
end Go.Proofs.YtdafdfgkfkanjaaDoor
