/- swagelaw04.RowTexts answers true at all rows, and turns nothing that was there. -/
import Derived.Test.YtdafdfgkfkanjaaDoorWTs
import Derived.Test.YtdafdfgkfkanjaaDoorWTx
import Derived.Test.YtdafdfgkfkanjaaDoorWLive
import Derived.Test.YtdafdfgkfkanjaaDoorWOne
import Derived.Test.YtdafdfgkfkanjaaDoorWMod
import Derived.RegionTactic
namespace Go.Proofs.YtdafdfgkfkanjaaDoor
open Go.RowKit Go.Shelf

theorem numll1T (w : World) (va : Value) (ns : List (Bool × List Nat)) (t : TypeId) (h1 : NumL w va ns) : NumLL (w.alloc (.cells #[va] t)) (.slice (some ⟨w.heap.size, 0, none⟩) 1 1) [ns] := by
  have hh : (w.alloc (.cells #[va] t)).heap[w.heap.size]? = some (.cells #[va] t (0, 0)) := heap_alloc_new _ _
  have g1 := h1.below (below_alloc w (.cells #[va] t))
  generalize w.alloc (.cells #[va] t) = W at *
  refine ⟨_, 1, rfl, Nat.le_refl _, by unfold maxLen; decide, fun _ => ⟨_, 0, rfl, fun i hi => ?_⟩⟩
  match i, hi with
  | 0, _ => exact ⟨va, by unfold World.cell?; simp only [hh]; rfl, g1⟩
theorem few_lenT {ns : List (Bool × List Nat)} (h : Few ns) (i : Nat) : (ns.getD i (false, [])).2.length ≤ 1000000 := by
  rcases Nat.lt_or_ge i ns.length with hi | hi
  · exact Nat.le_trans (h.2 i hi) (by decide)
  · rw [List.getD_eq_getElem?_getD, List.getElem?_eq_none hi]; simp

theorem SzI.dlen1 {k : Nat} {z : Int} (h : SzI k z) (hk : 2 * k ≤ 1000000) : (D.lim z.natAbs).length ≤ 1000000 := by
  refine Nat.le_trans (D.lim_length_le (k := 2 * k) ?_) hk
  have : BB ^ k = D.BB ^ (2 * k) := bb_pow k
  unfold SzI at h
  rw [← this]; exact h

set_option maxRecDepth 100000 in
set_option maxHeartbeats 4000000 in
theorem rtexts_walk (aa : Option Addr) (ca : Nat) (ns : List (Bool × List Nat)) (w : World) (h : NumL w (.slice aa ns.length ca) ns) :
    Calls Tryd.prog 3 #[.slice aa ns.length ca] w fun e w' => e = .returned (.bool true) ∧ Below w.heap.size w w' := by
  have N1 := hide h
  have OK := hide (numl_ok h)
  have hla : ns.length ≤ 140737488355328 := by obtain ⟨a, c, he, k1, k2, _⟩ := h; simp only [Value.slice.injEq] at he; omega
  clear h
  go_enter Tryd.func3, Tryd.ntmps3
  go_wp2_with fail
  refine (rlive_any _).mono ?_
  rintro e w1 ⟨rfl, hb⟩
  have HB := hide hb
  clear hb
  go_wp2_with fail
  refine (rlongT_any _ [ns] _ (numll1T w1 _ ns 22 (N1.out.below HB.out))).mono ?_
  rintro e w2 ⟨⟨r, rfl, hr⟩, rfl⟩
  have al := below_alloc w1 (.cells #[.slice aa ns.length ca] 22)
  replace HB := hide (HB.out.trans (al.mono HB.out.size))
  clear al
  generalize w1.alloc (.cells #[.slice aa ns.length ca] 22) = w2 at *
  cases r with
  | true =>
    go_wp2
    go_ret
    exact ⟨rfl, HB.out⟩
  | false =>
    have WT : Hid (wt ns ≤ 300) := hide (by have := hr rfl; simpa using this)
    have FA := hide (wt_few WT.out)
    clear hr
    go_wp2_with fail
    refine (rowof_any _ ns _ (N1.out.below HB.out) (Nat.le_trans FA.out.1 (by decide)) (few_lenT FA.out)).mono ?_
    rintro e w3 ⟨vA, uA, rfl, hi, hr, hb⟩
    have SX := hide (numsZ_sz N1.out FA.out)
    have SM := hide (wtxt_small OK.out WT.out)
    have LX : Hid ((numsZ ns).length ≤ 300) := hide (by have := FA.out.1; simpa [numsZ] using this)
    generalize numsZ ns = zs at *
    have XA := hide hi
    have PA := hide hr
    replace HB := hide (HB.out.trans (hb.mono HB.out.size))
    clear hi hr hb
    have TL : Hid ((Lib.join (zs.map fun z => (itxt z).data.toList) [32]).length ≤ 65536) := hide (by have h1 := congrArg List.length (wtxt_bl zs); rw [bl_len] at h1; have := SM.out; simp only [List.length_cons, List.length_append] at h1; omega)
    go_wp2_with fail
    refine (rtext_any _ zs _ XA.out (by have := LX.out; omega) (fun i => SzI.len (SX.out i) (by decide)) (by have := TL.out; omega)).mono ?_
    rintro e w4 ⟨rfl, hb⟩
    replace HB := hide (HB.out.trans (hb.mono HB.out.size))
    replace XA := hide (XA.out.below hb)
    replace PA := hide (PA.out.below hb)
    clear hb TL
    obtain ⟨tx, htx⟩ : ∃ tx, tx = wtxt zs := ⟨_, rfl⟩
    have TX := hide htx
    rw [← htx]
    clear htx
    go_wp2_with fail
    refine (rread_any tx _ (by rw [TX.out]; have := SM.out; omega)).mono ?_
    rintro e w5 ⟨v, a, b, rfl, hr, hb⟩
    obtain ⟨rfl, rfl, hi⟩ := text_read SM.out (by have := LX.out; omega) (by rw [← TX.out]; exact hr)
    have VI := hide hi
    replace HB := hide (HB.out.trans (hb.mono HB.out.size))
    replace PA := hide (PA.out.below hb)
    clear hr hb hi
    go_upto_region 8 with fail
    have b1 := below_alloc w5 (.cells #[.int .i64 0, .int .i64 0] 33)
    have EX := hide (Box2.new w5 33 (.int .i64 0) (.int .i64 0))
    replace HB := hide (HB.out.trans (b1.mono HB.out.size))
    replace PA := hide (PA.out.below b1)
    replace VI := hide (VI.out.below b1)
    clear b1
    generalize w5.alloc (.cells #[.int .i64 0, .int .i64 0] 33) = w6 at *
    obtain ⟨E, hE⟩ : ∃ X, X = w5.heap.size := ⟨_, rfl⟩
    rw [← hE] at EX
    rw [← hE]
    clear hE
    go_wp2_with fail
    refine (rtx_any _ zs _ PA.out (fun i => SzI.dlen1 (SX.out i) (by decide)) SM.out).mono ?_
    rintro e w7 ⟨rfl, hb⟩
    replace HB := hide (HB.out.trans (hb.mono HB.out.size))
    replace PA := hide (PA.out.below hb)
    replace VI := hide (VI.out.below hb)
    replace EX := hide (EX.out.step hb)
    rw [← TX.out]
    clear hb
    have e0 := EX.out.cell0
    have e1 := EX.out.cell1
    go_wp2_with fail
    refine (isrow_yes _ _ zs _ VI.out PA.out (fun i => SzI.len (SX.out i) (by decide))).mono ?_
    rintro e w8 ⟨rfl, hb⟩
    replace HB := hide (HB.out.trans (hb.mono HB.out.size))
    clear hb e0 e1
    go_wp2
    go_ret
    exact ⟨rfl, HB.out⟩
end Go.Proofs.YtdafdfgkfkanjaaDoor
