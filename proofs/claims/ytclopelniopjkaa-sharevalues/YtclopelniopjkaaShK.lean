/- share.asksTwo, share.keyOf. -/
import Derived.Test.YtclopelniopjkaaShB
import Derived.Test.YtclopelniopjkaaPgRSame
import Derived.RegionTactic
namespace Go.Proofs.Ytclopelniopjkaa
open Go.RowKit

set_option maxRecDepth 100000 in
theorem asksTwo_any (i : Ins) (w : World) :
    Calls Try.prog 58 #[.agg #[.int .i64 i.op, .int .i64 i.to, .int .i64 i.a, .int .i64 i.b, .int .i64 i.c]] w fun e w' => e = .returned (.bool (twoB i.op)) ∧ Below w.heap.size w w' := by
  go_enter Try.func58, Try.ntmps58
  go_upto_region 1 with fail
  have HB := hide (below_alloc w (.cells #[.int .i64 i.op, .int .i64 i.to, .int .i64 i.a, .int .i64 i.b, .int .i64 i.c] 40))
  have IX := hide (Box5.new w 40 i)
  unfold Ins.vals at IX
  generalize w.alloc (.cells #[.int .i64 i.op, .int .i64 i.to, .int .i64 i.a, .int .i64 i.b, .int .i64 i.c] 40) = w1 at *
  obtain ⟨B0, hB0⟩ : ∃ B0, B0 = w.heap.size := ⟨_, rfl⟩
  rw [← hB0] at IX ⊢
  clear hB0
  have k0 := IX.out.cells.cell0
  have k1 := IX.out.cells.cell1
  have k2 := IX.out.cells.cell2
  have k3 := IX.out.cells.cell3
  have k4 := IX.out.cells.cell4
  simp only [Nat.zero_add] at k1 k2 k3 k4
  have AS := hide (asks_any i w1)
  by_cases h : i.op = 3 ∨ i.op = 4
  · have e1 : asksL i = [i.a, i.b] := by unfold asksL; rw [if_pos h]
    have e2 : twoB i.op = true := by unfold twoB; simpa using h
    have E2 := hide e2
    unfold AsksR at AS
    rw [e1] at AS
    clear h e1 e2
    go_wp2_with fail
    refine AS.out.mono ?_
    rintro e w2 ⟨⟨v, rfl, hv⟩, hb⟩
    obtain ⟨a, cap, rfl, _⟩ := hv
    dsimp only [List.length_cons, List.length_nil]
    go_wp2
    go_ret
    exact ⟨by rw [E2.out]; rfl, HB.out.trans (hb.mono HB.out.size)⟩
  · have e2 : twoB i.op = false := by unfold twoB; simpa using h
    have e3 : (((asksL i).length : Int) == 2) = false := by
      unfold asksL
      rw [if_neg h]
      split <;> rfl
    have E2 := hide e2
    unfold AsksR at AS
    generalize asksL i = l at *
    clear h e2
    go_wp2_with fail
    refine AS.out.mono ?_
    rintro e w2 ⟨⟨v, rfl, hv⟩, hb⟩
    obtain ⟨a, cap, rfl, _⟩ := hv
    go_wp2
    go_ret
    exact ⟨by rw [E2.out]; first | rfl | simp_all, HB.out.trans (hb.mono HB.out.size)⟩

theorem info_key : (Try.prog.info? 102).map (·.size) = some 4 := by kernel_rfl
/-- a key is handed back -/
theorem ret_key {fn : Func} {R : Ending → World → Prop} {a : Act} {w : World} {p : Tmp} (h : fn.results = #[.cell p 102]) (g : Nat) (x y z u : Value)
    (hp : a.tmps.getD p undef = .pointer (some ⟨g, 0, none⟩)) (hg : Box4 w g 102 x y z u) (hd : a.defers = []) (hR : R (.returned (.agg #[x, y, z, u])) w) : bodyPost Try.prog fn R .ret a w := by
  refine bodyPost_ret ?_ hd hR
  have hp' : a.tmps[p]?.getD undef = .pointer (some ⟨g, 0, none⟩) := by simpa using hp
  simp [results, h, hp', asAddr, run_loadVar_row w g 102 102 #[x, y, z, u] (0, 0) _ hg Try.underlying102 rfl info_key]
set_option maxRecDepth 100000 in
set_option maxHeartbeats 1000000 in
theorem keyOf_any (i : Ins) (w : World) (base B g m n : Nat) (D : DataW Unit) (s : ShS) (h : BookAt w base B g m n D s) (ha : 0 ≤ i.a ∧ i.a < s.held.length) (hb : 0 ≤ i.b ∧ i.b < s.held.length) :
    Calls Try.prog 57 #[.pointer (some ⟨B, 0, none⟩), .agg #[.int .i64 i.op, .int .i64 i.to, .int .i64 i.a, .int .i64 i.b, .int .i64 i.c]] w fun e w' => e = .returned (kK (keyI s.held i)) ∧ Below w.heap.size w w' := by
  obtain ⟨op, to, a, b, c⟩ := i
  dsimp only at ha hb ⊢
  obtain ⟨x, rfl⟩ := Int.eq_ofNat_of_zero_le ha.1
  obtain ⟨y, rfl⟩ := Int.eq_ofNat_of_zero_le hb.1
  have hx : x < s.held.length := by omega
  have hy : y < s.held.length := by omega
  clear ha hb
  have HK := hide h
  clear h
  go_enter Try.func57, Try.ntmps57
  go_upto_region 1 with fail
  have b1 := below_alloc w (.cells #[.int .i64 op, .int .i64 to, .int .i64 (x : Int), .int .i64 (y : Int), .int .i64 c] 40)
  have b2 := below_alloc (w.alloc (.cells #[.int .i64 op, .int .i64 to, .int .i64 (x : Int), .int .i64 (y : Int), .int .i64 c] 40)) (.cells #[.int .i64 0, .int .i64 0, .int .i64 0, .int .i64 0] 102)
  have IX := hide ((Box5.new w 40 ⟨op, to, x, y, c⟩).step b2)
  have RX := hide (Box4.new (w.alloc (.cells #[.int .i64 op, .int .i64 to, .int .i64 (x : Int), .int .i64 (y : Int), .int .i64 c] 40)) 102 (.int .i64 0) (.int .i64 0) (.int .i64 0) (.int .i64 0))
  rw [World.size_alloc] at RX
  have HB := hide (b1.trans (b2.mono b1.size))
  replace HK := hide ((HK.out.below b1).below b2)
  clear b1 b2
  unfold Ins.vals at IX
  generalize (w.alloc (.cells #[.int .i64 op, .int .i64 to, .int .i64 (x : Int), .int .i64 (y : Int), .int .i64 c] 40)).alloc (.cells #[.int .i64 0, .int .i64 0, .int .i64 0, .int .i64 0] 102) = w1 at *
  obtain ⟨I, hI⟩ : ∃ I, I = w.heap.size := ⟨_, rfl⟩
  have ZI := hide hI
  rw [← hI] at IX RX ⊢
  clear hI
  obtain ⟨R, hR⟩ : ∃ R, R = I + 1 := ⟨_, rfl⟩
  have ZR := hide hR
  rw [← hR] at RX ⊢
  clear hR
  have k0 := IX.out.cells.cell0
  have k1 := IX.out.cells.cell1
  have k2 := IX.out.cells.cell2
  have k3 := IX.out.cells.cell3
  have k4 := IX.out.cells.cell4
  simp only [Nat.zero_add] at k1 k2 k3 k4
  have c0 := HK.out.box.cell0
  have r1 := HK.out.row.cell hx
  obtain ⟨u, hu⟩ : ∃ u, u = ot s.held x := ⟨_, rfl⟩
  rw [← hu] at r1
  have U := hide hu
  clear hu
  have LI := IX.out.lt
  have LR := RX.out.lt
  have LB := HK.out.box.lt
  have LG := HK.out.row.lt
  go_region
  have hb := (below_alloc w1 (.cells #[.int .i64 op, .int .i64 u, .int .i64 0, .int .i64 c] 102)).drew
  have NX := hide (Box4.new w1 102 (.int .i64 op) (.int .i64 u) (.int .i64 0) (.int .i64 c)).drew
  replace HK := hide (HK.out.below hb)
  replace IX := hide (IX.out.step hb)
  replace RX := hide (RX.out.step hb)
  replace HB := hide (HB.out.trans (hb.mono HB.out.size))
  clear hb k0 k1 k2 k3 k4 c0 r1
  generalize (w1.alloc (.cells #[.int .i64 op, .int .i64 u, .int .i64 0, .int .i64 c] 102)).drew = w2 at *
  generalize w1.heap.size = K at *
  have NI : I ≠ K := by omega
  have NR : R ≠ K := by omega
  have NB : B ≠ K := by omega
  have NG : g ≠ K := by omega
  have GK := hide (show w.heap.size ≤ K by have := ZI.out; omega)
  clear LI LR LB LG
  have k0 := IX.out.cells.cell0
  have k1 := IX.out.cells.cell1
  have k2 := IX.out.cells.cell2
  have k3 := IX.out.cells.cell3
  have k4 := IX.out.cells.cell4
  simp only [Nat.zero_add] at k1 k2 k3 k4
  go_wp2_with fail
  refine (asksTwo_any ⟨op, to, x, y, c⟩ _).mono ?_
  rintro e w3 ⟨rfl, hb⟩
  replace HK := hide (HK.out.below hb)
  replace IX := hide (IX.out.step hb)
  replace RX := hide (RX.out.step hb)
  replace NX := hide (NX.out.step hb)
  replace HB := hide (HB.out.trans (hb.mono HB.out.size))
  clear hb k0 k1 k2 k3 k4
  dsimp only
  have k0 := IX.out.cells.cell0
  have n0 := NX.out.cell0
  have n1 := NX.out.cell1
  have n2 := NX.out.cell2
  have n3 := NX.out.cell3
  have q0 := NX.out.free 0
  have q1 := NX.out.free 1
  have q2 := NX.out.free 2
  have z0 := RX.out.cell0
  have z1 := RX.out.cell1
  have z2 := RX.out.cell2
  have z3 := RX.out.cell3
  have f0 := RX.out.free 0
  have f1 := RX.out.free 1
  have f2 := RX.out.free 2
  have f3 := RX.out.free 3
  cases h2 : twoB op with
  | false =>
    have h3 : op ≠ 3 := by intro e; rw [e] at h2; cases h2
    have h4 : op ≠ 4 := by intro e; rw [e] at h2; cases h2
    have H4 := hide h4
    clear h2 h4
    go_wp2
    refine ret_key rfl R _ _ _ _ rfl (RX.out.put _ _ _ _) rfl ?_
    refine ⟨?_, below_put4 HB.out (by have := ZI.out; have := ZR.out; omega) _ _ _ _⟩
    unfold keyI kK
    dsimp only
    rw [if_neg h3, if_neg h3, if_neg H4.out, U.out]
    rfl
  | true =>
    have H2 := hide h2
    have h34 : op = 3 ∨ op = 4 := by unfold twoB at h2; simpa using h2
    clear h2
    have c0 := HK.out.box.cell0
    have r1 := HK.out.row.cell hy
    obtain ⟨t, ht⟩ : ∃ t, t = ot s.held y := ⟨_, rfl⟩
    rw [← ht] at r1
    have T := hide ht
    clear ht
    have k3 := IX.out.cells.cell3
    simp only [Nat.zero_add] at k3
    go_upto_region 3 with fail
    go_region
    replace NX := hide (NX.out.set2 (.int .i64 t)).drew
    replace RX := hide (RX.out.set_ne (C := K) (o := 2) (Ne.symm NR) (.int .i64 t)).drew
    replace HB := hide (HB.out.setCell (p := ⟨K, 2, none⟩) GK.out (.int .i64 t)).drew
    replace IX := hide (IX.out.set_ne (C := K) (o := 2) (Ne.symm NI) (.int .i64 t)).drew
    clear k0 n0 n1 n2 n3 q0 q1 q2 z0 z1 z2 z3 f0 f1 f2 f3 k3 c0 r1 HK
    generalize (w3.setCell ⟨K, 2, none⟩ (.int .i64 t)).drew = w4 at *
    have k0 := IX.out.cells.cell0
    have n0 := NX.out.cell0
    have n1 := NX.out.cell1
    have n2 := NX.out.cell2
    have n3 := NX.out.cell3
    have q0 := NX.out.free 0
    have q1 := NX.out.free 1
    have q2 := NX.out.free 2
    have z0 := RX.out.cell0
    have z1 := RX.out.cell1
    have z2 := RX.out.cell2
    have z3 := RX.out.cell3
    have f0 := RX.out.free 0
    have f1 := RX.out.free 1
    have f2 := RX.out.free 2
    have f3 := RX.out.free 3
    by_cases h3 : op = 3
    · subst h3
      go_upto_region 6 with fail
      have E1 : Hid ((if t < u then t else u) = min u t) := hide (by rw [Int.min_def]; split <;> split <;> omega)
      have E2 : Hid ((if u < t then t else u) = max u t) := hide (by rw [Int.max_def]; split <;> split <;> omega)
      rw [E1.out, E2.out]
      clear E1 E2 n0 n1 n2 n3 q0 q1 q2 z0 z1 z2 z3 f0 f1 f2 f3 k0
      generalize hlo : min u t = lo
      generalize hhi : max u t = hi
      have LO := hide hlo
      have HI := hide hhi
      clear hlo hhi h34
      have N1 : Box4 (w4.setCell ⟨K, 1, none⟩ (.int .i64 lo)) K 102 (.int .i64 3) (.int .i64 lo) (.int .i64 t) (.int .i64 c) := by
        have h1 := Box4.set NX.out 1 (.int .i64 lo)
        exact h1
      replace NX := hide (N1.set2 (.int .i64 hi))
      replace RX := hide ((RX.out.set_ne (C := K) (o := 1) (Ne.symm NR) (.int .i64 lo)).set_ne (C := K) (o := 2) (Ne.symm NR) (.int .i64 hi))
      replace HB := hide ((HB.out.setCell (p := ⟨K, 1, none⟩) GK.out (.int .i64 lo)).setCell (p := ⟨K, 2, none⟩) GK.out (.int .i64 hi))
      clear N1 IX
      generalize (w4.setCell ⟨K, 1, none⟩ (.int .i64 lo)).setCell ⟨K, 2, none⟩ (.int .i64 hi) = w5 at *
      have n0 := NX.out.cell0
      have n1 := NX.out.cell1
      have n2 := NX.out.cell2
      have n3 := NX.out.cell3
      have z0 := RX.out.cell0
      have z1 := RX.out.cell1
      have z2 := RX.out.cell2
      have z3 := RX.out.cell3
      have f0 := RX.out.free 0
      have f1 := RX.out.free 1
      have f2 := RX.out.free 2
      have f3 := RX.out.free 3
      go_wp2
      refine ret_key rfl R _ _ _ _ rfl (RX.out.put _ _ _ _) rfl ?_
      refine ⟨?_, below_put4 HB.out (by have := ZI.out; have := ZR.out; omega) _ _ _ _⟩
      unfold keyI kK
      dsimp only
      rw [if_pos rfl, if_pos rfl, ← LO.out, ← HI.out, U.out, T.out]
      rfl
    · have h4 : op = 4 := by omega
      clear h34
      subst h4
      go_wp2
      refine ret_key rfl R _ _ _ _ rfl (RX.out.put _ _ _ _) rfl ?_
      refine ⟨?_, below_put4 HB.out (by have := ZI.out; have := ZR.out; omega) _ _ _ _⟩
      unfold keyI kK
      dsimp only
      rw [if_neg h3, if_neg h3, if_pos rfl, U.out, T.out]
      rfl
end Go.Proofs.Ytclopelniopjkaa
