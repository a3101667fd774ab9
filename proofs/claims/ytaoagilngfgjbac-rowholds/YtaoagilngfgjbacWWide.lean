/- row.Widest, swageref04.Widest. -/
import Derived.Test.YtaoagilngfgjbacWRef
namespace Go.Proofs.Ytaoagilngfgjbac
open Go.RowKit

/-- the greatest of the first k without its sign -/
def wideTo (zs : List Int) : Nat → Nat
  | 0 => 0
  | k + 1 => max (wideTo zs k) (zs.getD k 0).natAbs
theorem cmpZ_more {x y : Nat} (h : y < x) : cmpZ (x : Int) (y : Int) = 1 := by unfold cmpZ; rw [if_neg (by omega), if_neg (by omega)]
theorem cmpZ_less {x y : Nat} (h : ¬ y < x) : ¬ 0 < cmpZ (x : Int) (y : Int) := by unfold cmpZ; split <;> (try split) <;> omega
theorem ret_rint {fn : Func} {R : Ending → World → Prop} {a : Act} {w : World} {p : Tmp} (h : fn.results = #[.cell p 42]) (g : Nat) (x y : Value) (t : TypeId) (fr : Nat × Nat)
    (hp : a.tmps.getD p undef = .pointer (some ⟨g, 0, none⟩)) (hg : w.heap[g]? = some (.cells #[x, y] t fr)) (hd : a.defers = []) (hR : R (.returned (.agg #[x, y])) w) : bodyPost Try.prog fn R .ret a w := by
  refine bodyPost_ret ?_ hd hR
  have hp' : a.tmps[p]?.getD undef = .pointer (some ⟨g, 0, none⟩) := by simpa using hp
  simp [results, h, hp', asAddr, run_loadVar_row w g t 42 #[x, y] fr _ hg Try.underlying42 rfl (show (Try.prog.info? 42).map (·.size) = some 2 by kernel_rfl)]
theorem rint_nought (w : World) : RInt w (.agg #[.bool false, .slice none 0 0]) 0 := ⟨false, 0, none, 0, rfl, Nums.nil_mk _ _ _ (Nat.zero_le _), rfl, fun _ => rfl⟩
set_option maxRecDepth 100000 in
set_option maxHeartbeats 4000000 in
theorem widest_any (va : Value) (zs : List Int) (w : World) (h : Ints w va zs) :
    Calls Try.prog 16 #[va] w fun e w' => ∃ v, e = .returned v ∧ IntAt w' v (wideTo zs zs.length : Int) ∧ Below w.heap.size w w' := by
  have HI := hide h
  obtain ⟨a, cap, rfl, hcap, hmx, _⟩ := h
  unfold maxLen at hmx
  have HE := hide (boxes2 w (.bool false) (.slice none 0 0) (.bool false) (.slice none 0 0))
  go_enter Try.func16, Try.ntmps16
  go_wp2
  go_loopw [5, 6, 9] (fun _ _ iv wr => ∃ k : Nat, k ≤ zs.length ∧ iv = .int .i64 k ∧ Below w.heap.size w wr ∧ Box wr w.heap.size (.bool false) (.slice none 0 0) ∧ ∃ s m n c, Box wr (w.heap.size + 1) (.bool s) (.slice m n c) ∧ IntAt wr (.agg #[.bool s, .slice m n c]) (wideTo zs k : Int)) (fun _ _ iv _ => zs.length - (intOf iv).toNat)
  case atStart => exact ⟨0, Nat.zero_le _, rfl, HE.out.2.2, HE.out.1, false, none, 0, 0, HE.out.2.1, int_nought _⟩
  case round =>
    obtain ⟨k, hk, rfl, hbel, hP, sw, mw, lw, cw, hW, hI⟩ := hrel
    clear HE
    have HB := hide hbel
    have P0 := hide hP
    have PW := hide hW
    have IW := hide hI
    clear hbel hP hW hI
    by_cases hlt : k < zs.length
    · obtain ⟨b, off, rfl, s, m, l, c, k1, k2, k3⟩ := (HI.out.below HB.out).at hlt
      have IX := hide k3
      have K1 := hide k1
      have K2 := hide k2
      have HZ : Hid (wideTo zs (k + 1) = max (wideTo zs k) (zs.getD k 0).natAbs) := hide rfl
      clear k1 k2 k3
      generalize zs.getD k 0 = z at *
      generalize wideTo zs k = wd at *
      have e1 := K1.out.out
      have e2 := K2.out.out
      replace HB := hide (HB.out.trans ((below_alloc wr (.cells #[.bool s, .slice m l c] 39)).mono HB.out.size))
      replace P0 := hide (P0.out.step (below_alloc wr (.cells #[.bool s, .slice m l c] 39)))
      replace PW := hide (PW.out.step (below_alloc wr (.cells #[.bool s, .slice m l c] 39)))
      replace IW := hide (IW.out.below (below_alloc wr (.cells #[.bool s, .slice m l c] 39)))
      replace IX := hide (IX.out.below (below_alloc wr (.cells #[.bool s, .slice m l c] 39)))
      have PX := hide (Box.new wr (.bool s) (.slice m l c))
      have x0 := PX.out.cell0
      have x1 := PX.out.cell1
      go_wp2_with fail
      refine (iabs_any _ z _ IX.out).mono ?_
      rintro e w1 ⟨v, rfl, n, hb⟩
      obtain ⟨sa, ma, la, ca, rfl, n⟩ := n.cells
      clear IX
      replace HB := hide (HB.out.trans ((hb).mono HB.out.size))
      replace P0 := hide (P0.out.step (hb))
      replace PW := hide (PW.out.step (hb))
      replace IW := hide (IW.out.below (hb))
      have IA := hide n
      clear hb n e1 e2 x0 x1 PX K1 K2
      replace HB := hide (HB.out.trans ((below_alloc w1 (.cells #[.bool sa, .slice ma la ca] 39)).mono HB.out.size))
      replace P0 := hide (P0.out.step (below_alloc w1 (.cells #[.bool sa, .slice ma la ca] 39)))
      replace PW := hide (PW.out.step (below_alloc w1 (.cells #[.bool sa, .slice ma la ca] 39)))
      replace IW := hide (IW.out.below (below_alloc w1 (.cells #[.bool sa, .slice ma la ca] 39)))
      replace IA := hide (IA.out.below (below_alloc w1 (.cells #[.bool sa, .slice ma la ca] 39)))
      have PA := hide (Box.new w1 (.bool sa) (.slice ma la ca))
      have a0 := PA.out.cell0
      have a1 := PA.out.cell1
      have w0' := PW.out.cell0
      have w1' := PW.out.cell1
      go_wp2_with fail
      refine (icmp_any _ _ (z.natAbs : Int) (wd : Int) _ IA.out IW.out).mono ?_
      rintro e w2 ⟨rfl, hb⟩
      clear a0 a1 w0' w1'
      replace HB := hide (HB.out.trans ((hb).mono HB.out.size))
      replace P0 := hide (P0.out.step (hb))
      replace PW := hide (PW.out.step (hb))
      replace IW := hide (IW.out.below (hb))
      replace IA := hide (IA.out.below (hb))
      replace PA := hide (PA.out.step (hb))
      clear hb
      by_cases hgt : wd < z.natAbs
      · rw [cmpZ_more hgt]
        have HG := hide hgt
        clear hgt
        have a0 := PA.out.cell0
        have a1 := PA.out.cell1
        have w0' := PW.out.cell0
        have w1' := PW.out.cell1
        have f0' := PW.out.free 0
        have f1' := PW.out.free 1
        go_wp2
        go_roundw
        case rel => exact ⟨k + 1, by omega, by go_num, below_put HB.out (Nat.le_succ _) _ _, P0.out.other (by omega) _ _, sa, ma, la, ca, PW.out.put _ _, by rw [HZ.out, Nat.max_eq_right (Nat.le_of_lt HG.out)]; exact IA.out.keep (PW.out.keeps (by simp) (by simp) _ _)⟩
        case measure => simp [intOf]; omega
      · have SG := cmpZ_less hgt
        have HG := hide hgt
        clear hgt
        generalize cmpZ (z.natAbs : Int) (wd : Int) = sz at *
        go_wp2
        go_roundw
        case rel => exact ⟨k + 1, by omega, by go_num, HB.out, P0.out, sw, mw, lw, cw, PW.out, by rw [HZ.out, Nat.max_eq_left (by have := HG.out; omega)]; exact IW.out⟩
        case measure => simp [intOf]; omega
    · have e : k = zs.length := by omega
      subst e
      have w0' := PW.out.cell0
      have w1' := PW.out.cell1
      have z0 := P0.out.cell0
      have z1 := P0.out.cell1
      have f0' := P0.out.free 0
      have f1' := P0.out.free 1
      go_wp2
      refine ret_int rfl w.heap.size _ _ _ _ rfl (P0.out.put _ _) rfl ?_
      exact ⟨_, rfl, IW.out.keep (P0.out.keeps (by simp) (by simp) _ _), below_put HB.out (Nat.le_refl _) _ _⟩
set_option maxRecDepth 100000 in
set_option maxHeartbeats 4000000 in
theorem r4widest_any (va : Value) (zs : List Int) (w : World) (h : RInts w va zs) :
    Calls Try.prog 17 #[va] w fun e w' => ∃ v, e = .returned v ∧ RInt w' v (wideTo zs zs.length : Int) ∧ Below w.heap.size w w' := by
  have HI := hide h
  obtain ⟨a, cap, rfl, hcap, hmx, _⟩ := h
  unfold maxLen at hmx
  have HE := hide (nboxes2 42 w (.bool false) (.slice none 0 0) (.bool false) (.slice none 0 0))
  go_enter Try.func17, Try.ntmps17
  go_wp2
  go_loopw [4] (fun iv wr => ∃ k : Nat, k ≤ zs.length ∧ iv = .int .i64 k ∧ Below w.heap.size w wr ∧ Box2 wr w.heap.size 42 (.bool false) (.slice none 0 0) ∧ ∃ s m n c, Box2 wr (w.heap.size + 1) 42 (.bool s) (.slice m n c) ∧ RInt wr (.agg #[.bool s, .slice m n c]) (wideTo zs k : Int)) (fun iv _ => zs.length - (intOf iv).toNat)
  case atStart => exact ⟨0, Nat.zero_le _, rfl, HE.out.2.2, HE.out.1, false, none, 0, 0, HE.out.2.1, rint_nought _⟩
  case round =>
    obtain ⟨k, hk, rfl, hbel, hP, sw, mw, lw, cw, hW, hI⟩ := hrel
    clear HE
    have HB := hide hbel
    have P0 := hide hP
    have PW := hide hW
    have IW := hide hI
    clear hbel hP hW hI
    by_cases hlt : k < zs.length
    · obtain ⟨b, off, rfl, s, m, l, c, k1, k2, k3⟩ := (HI.out.below HB.out).at hlt
      have IX := hide k3
      have K1 := hide k1
      have K2 := hide k2
      have HZ : Hid (wideTo zs (k + 1) = max (wideTo zs k) (zs.getD k 0).natAbs) := hide rfl
      clear k1 k2 k3
      generalize zs.getD k 0 = z at *
      generalize wideTo zs k = wd at *
      by_cases hgt : wd < z.natAbs
      · have SG := cmpZ_more hgt
        have HG := hide hgt
        have HS := hide SG
        clear hgt SG
        go_wp2_with fail
        refine wp_calm (fun w' => Below w.heap.size w w' ∧ Box2 w' w.heap.size 42 (.bool false) (.slice none 0 0) ∧ Box2 w' (w.heap.size + 1) 42 (.bool sw) (.slice mw lw cw) ∧ CellAt w' ⟨b, off + k * 2, none⟩ (.bool s) ∧ CellAt w' ⟨b, off + k * 2 + 1, none⟩ (.slice m l c) ∧ RInt w' (.agg #[.bool s, .slice m l c]) z ∧ RInt w' (.agg #[.bool sw, .slice mw lw cw]) (wd : Int)) (fun _ => true) 8 #[false, false, false, false, false, false, false, false] (by kernel_rfl) rfl rfl ?_
        have HF := hide (And.intro (HB.out.drew) (And.intro (P0.out.drew) (And.intro (PW.out.drew) (And.intro (K1.out.drew) (And.intro (K2.out.drew) (And.intro (IX.out.drew) (IW.out.drew)))))))
        generalize wr.drew = wrd at *
        refine Calm.take (i := 0) (v := ?_) (a' := ?_) (l' := #[true, false, false, false, false, false, false, false]) (d := some 12) rfl (by kernel_rfl) (by kernel_rfl) (by kernel_rfl) (by kernel_rfl) (fun _ _ _ h => h) HF.out rfl ?_ rfl rfl ?_ ?_
        rotate_left
        · intro w' hF; clear hF; go_simp; try rfl
        rotate_left
        · simp only [Act.put]; exact rfl
        refine Calm.take (i := 1) (v := ?_) (a' := ?_) (l' := #[true, true, false, false, false, false, false, false]) (d := some 13) rfl (by kernel_rfl) (by kernel_rfl) (by kernel_rfl) (by kernel_rfl) (fun _ _ _ h => h) HF.out rfl ?_ rfl rfl ?_ ?_
        rotate_left
        · intro w' hF; clear hF; go_simp; try rfl
        rotate_left
        · simp only [Act.put]; exact rfl
        refine Calm.take (i := 2) (v := ?_) (a' := ?_) (l' := #[true, true, true, false, false, false, false, false]) (d := some 14) rfl (by kernel_rfl) (by kernel_rfl) (by kernel_rfl) (by kernel_rfl) (fun _ _ _ h => h) HF.out rfl ?_ rfl rfl ?_ ?_
        rotate_left
        · intro w' hF; clear hF; go_simp; try rfl
        rotate_left
        · simp only [Act.put]; exact rfl
        refine Calm.take (i := 3) (v := ?_) (a' := ?_) (l' := #[true, true, true, true, false, false, false, false]) (d := some 15) rfl (by kernel_rfl) (by kernel_rfl) (by kernel_rfl) (by kernel_rfl) (fun _ _ _ h => h) HF.out rfl ?_ rfl rfl ?_ ?_
        rotate_left
        · intro w' hF; have f10 := hF.2.1.cell0; have f11 := hF.2.1.cell1; have f20 := hF.2.2.1.cell0; have f21 := hF.2.2.1.cell1; have f30 := hF.2.2.2.1.out; have f40 := hF.2.2.2.2.1.out; clear hF; go_simp; try rfl
        rotate_left
        · simp only [Act.put]; exact rfl
        refine Calm.take (i := 5) (v := ?_) (a' := ?_) (l' := #[true, true, true, true, false, true, false, false]) (d := some 17) rfl (by kernel_rfl) (by kernel_rfl) (by kernel_rfl) (by kernel_rfl) (fun _ _ _ h => h) HF.out rfl ?_ rfl rfl ?_ ?_
        rotate_left
        · intro w' hF; have f10 := hF.2.1.cell0; have f11 := hF.2.1.cell1; have f20 := hF.2.2.1.cell0; have f21 := hF.2.2.1.cell1; have f30 := hF.2.2.2.1.out; have f40 := hF.2.2.2.2.1.out; clear hF; go_simp; try rfl
        rotate_left
        · simp only [Act.put]; exact rfl
        refine Calm.one (i := 4) (l' := #[true, true, true, true, true, true, false, false]) (by kernel_rfl) rfl rfl rfl fun K hK => ?_
        go_simp
        refine (rabs_any _ z _ HF.out.2.2.2.2.2.1).mono ?_
        rintro e y1 ⟨v, rfl, n, hb⟩
        have HF' := hide (And.intro (HF.out.1.trans ((hb).mono HF.out.1.size)) (And.intro (HF.out.2.1.step (hb)) (And.intro (HF.out.2.2.1.step (hb)) (And.intro (HF.out.2.2.2.1.step (hb)) (And.intro (HF.out.2.2.2.2.1.step (hb)) (And.intro (HF.out.2.2.2.2.2.1.below (hb)) (HF.out.2.2.2.2.2.2.below (hb))))))))
        have TA := hide (n)
        refine hK _ _ (fun _ => HF'.out) ?_
        clear hK K HF hb n
        have HF := hide HF'.out
        clear HF'
        refine Calm.one (i := 6) (l' := #[true, true, true, true, true, true, true, false]) (by kernel_rfl) rfl rfl rfl fun K hK => ?_
        go_simp
        refine (rcmp_any _ _ (z.natAbs : Int) (wd : Int) _ TA.out HF.out.2.2.2.2.2.2).mono ?_
        rintro e y2 ⟨rfl, hb⟩
        rw [HS.out]
        clear TA
        have HF' := hide (And.intro (HF.out.1.trans ((hb).mono HF.out.1.size)) (And.intro (HF.out.2.1.step (hb)) (And.intro (HF.out.2.2.1.step (hb)) (And.intro (HF.out.2.2.2.1.step (hb)) (And.intro (HF.out.2.2.2.2.1.step (hb)) (And.intro (HF.out.2.2.2.2.2.1.below (hb)) (HF.out.2.2.2.2.2.2.below (hb))))))))
        refine hK _ _ (fun _ => HF'.out) ?_
        clear hK K HF hb
        have HF := hide HF'.out
        clear HF'
        refine Calm.take (i := 7) (v := ?_) (a' := ?_) (l' := #[true, true, true, true, true, true, true, true]) (d := some 19) rfl (by kernel_rfl) (by kernel_rfl) (by kernel_rfl) (by kernel_rfl) (fun _ _ _ h => h) HF.out rfl ?_ rfl rfl ?_ ?_
        rotate_left
        · intro w' hF; clear hF; go_simp; try rfl
        rotate_left
        · simp only [Act.put]; exact rfl
        refine Calm.done (by kernel_rfl) ?_
        replace HB := hide HF.out.1
        replace P0 := hide HF.out.2.1
        replace PW := hide HF.out.2.2.1
        replace K1 := hide HF.out.2.2.2.1
        replace K2 := hide HF.out.2.2.2.2.1
        replace IX := hide HF.out.2.2.2.2.2.1
        replace IW := hide HF.out.2.2.2.2.2.2
        clear HF
        have e1 := K1.out.out
        have e2 := K2.out.out
        go_wp2_with fail
        refine (rabs_any _ z _ IX.out).mono ?_
        rintro e y3 ⟨v, rfl, n, hb⟩
        obtain ⟨sa, ma, la, ca, rfl, n⟩ : ∃ s9 m9 l9 c9, v = .agg #[.bool s9, .slice m9 l9 c9] ∧ RInt y3 (.agg #[.bool s9, .slice m9 l9 c9]) (z.natAbs : Int) := by obtain ⟨b, j, a, c, rfl, hx⟩ := n; exact ⟨b, a, _, c, rfl, b, j, a, c, rfl, hx⟩
        clear e1 e2
        replace HB := hide (HB.out.trans (hb.mono HB.out.size))
        replace P0 := hide (P0.out.step hb)
        replace PW := hide (PW.out.step hb)
        have IA := hide n
        clear hb n IX IW K1 K2
        have w0' := PW.out.cell0
        have w1' := PW.out.cell1
        have f0' := PW.out.free 0
        have f1' := PW.out.free 1
        go_wp2
        go_roundw
        case rel => exact ⟨k + 1, by omega, by go_num, below_put HB.out (Nat.le_succ _) _ _, (P0.out.set_ne (by omega) _).set_ne (by omega) _, sa, ma, la, ca, (PW.out.set0 _).set1 _, by rw [HZ.out, Nat.max_eq_right (Nat.le_of_lt HG.out)]; exact IA.out.keep (keeps2 PW.out (by simp) (by simp) _ _)⟩
        case measure => simp [intOf]; omega
      · have SG := cmpZ_less hgt
        have HG := hide hgt
        have HS := hide SG
        clear hgt SG
        go_wp2_with fail
        refine wp_calm (fun w' => Below w.heap.size w w' ∧ Box2 w' w.heap.size 42 (.bool false) (.slice none 0 0) ∧ Box2 w' (w.heap.size + 1) 42 (.bool sw) (.slice mw lw cw) ∧ CellAt w' ⟨b, off + k * 2, none⟩ (.bool s) ∧ CellAt w' ⟨b, off + k * 2 + 1, none⟩ (.slice m l c) ∧ RInt w' (.agg #[.bool s, .slice m l c]) z ∧ RInt w' (.agg #[.bool sw, .slice mw lw cw]) (wd : Int)) (fun _ => true) 8 #[false, false, false, false, false, false, false, false] (by kernel_rfl) rfl rfl ?_
        have HF := hide (And.intro (HB.out.drew) (And.intro (P0.out.drew) (And.intro (PW.out.drew) (And.intro (K1.out.drew) (And.intro (K2.out.drew) (And.intro (IX.out.drew) (IW.out.drew)))))))
        generalize wr.drew = wrd at *
        refine Calm.take (i := 0) (v := ?_) (a' := ?_) (l' := #[true, false, false, false, false, false, false, false]) (d := some 12) rfl (by kernel_rfl) (by kernel_rfl) (by kernel_rfl) (by kernel_rfl) (fun _ _ _ h => h) HF.out rfl ?_ rfl rfl ?_ ?_
        rotate_left
        · intro w' hF; clear hF; go_simp; try rfl
        rotate_left
        · simp only [Act.put]; exact rfl
        refine Calm.take (i := 1) (v := ?_) (a' := ?_) (l' := #[true, true, false, false, false, false, false, false]) (d := some 13) rfl (by kernel_rfl) (by kernel_rfl) (by kernel_rfl) (by kernel_rfl) (fun _ _ _ h => h) HF.out rfl ?_ rfl rfl ?_ ?_
        rotate_left
        · intro w' hF; clear hF; go_simp; try rfl
        rotate_left
        · simp only [Act.put]; exact rfl
        refine Calm.take (i := 2) (v := ?_) (a' := ?_) (l' := #[true, true, true, false, false, false, false, false]) (d := some 14) rfl (by kernel_rfl) (by kernel_rfl) (by kernel_rfl) (by kernel_rfl) (fun _ _ _ h => h) HF.out rfl ?_ rfl rfl ?_ ?_
        rotate_left
        · intro w' hF; clear hF; go_simp; try rfl
        rotate_left
        · simp only [Act.put]; exact rfl
        refine Calm.take (i := 3) (v := ?_) (a' := ?_) (l' := #[true, true, true, true, false, false, false, false]) (d := some 15) rfl (by kernel_rfl) (by kernel_rfl) (by kernel_rfl) (by kernel_rfl) (fun _ _ _ h => h) HF.out rfl ?_ rfl rfl ?_ ?_
        rotate_left
        · intro w' hF; have f10 := hF.2.1.cell0; have f11 := hF.2.1.cell1; have f20 := hF.2.2.1.cell0; have f21 := hF.2.2.1.cell1; have f30 := hF.2.2.2.1.out; have f40 := hF.2.2.2.2.1.out; clear hF; go_simp; try rfl
        rotate_left
        · simp only [Act.put]; exact rfl
        refine Calm.take (i := 5) (v := ?_) (a' := ?_) (l' := #[true, true, true, true, false, true, false, false]) (d := some 17) rfl (by kernel_rfl) (by kernel_rfl) (by kernel_rfl) (by kernel_rfl) (fun _ _ _ h => h) HF.out rfl ?_ rfl rfl ?_ ?_
        rotate_left
        · intro w' hF; have f10 := hF.2.1.cell0; have f11 := hF.2.1.cell1; have f20 := hF.2.2.1.cell0; have f21 := hF.2.2.1.cell1; have f30 := hF.2.2.2.1.out; have f40 := hF.2.2.2.2.1.out; clear hF; go_simp; try rfl
        rotate_left
        · simp only [Act.put]; exact rfl
        refine Calm.one (i := 4) (l' := #[true, true, true, true, true, true, false, false]) (by kernel_rfl) rfl rfl rfl fun K hK => ?_
        go_simp
        refine (rabs_any _ z _ HF.out.2.2.2.2.2.1).mono ?_
        rintro e y1 ⟨v, rfl, n, hb⟩
        have HF' := hide (And.intro (HF.out.1.trans ((hb).mono HF.out.1.size)) (And.intro (HF.out.2.1.step (hb)) (And.intro (HF.out.2.2.1.step (hb)) (And.intro (HF.out.2.2.2.1.step (hb)) (And.intro (HF.out.2.2.2.2.1.step (hb)) (And.intro (HF.out.2.2.2.2.2.1.below (hb)) (HF.out.2.2.2.2.2.2.below (hb))))))))
        have TA := hide (n)
        refine hK _ _ (fun _ => HF'.out) ?_
        clear hK K HF hb n
        have HF := hide HF'.out
        clear HF'
        refine Calm.one (i := 6) (l' := #[true, true, true, true, true, true, true, false]) (by kernel_rfl) rfl rfl rfl fun K hK => ?_
        go_simp
        refine (rcmp_any _ _ (z.natAbs : Int) (wd : Int) _ TA.out HF.out.2.2.2.2.2.2).mono ?_
        rintro e y2 ⟨rfl, hb⟩
        have SG := HS.out
        generalize cmpZ (z.natAbs : Int) (wd : Int) = sz at *
        clear TA
        have HF' := hide (And.intro (HF.out.1.trans ((hb).mono HF.out.1.size)) (And.intro (HF.out.2.1.step (hb)) (And.intro (HF.out.2.2.1.step (hb)) (And.intro (HF.out.2.2.2.1.step (hb)) (And.intro (HF.out.2.2.2.2.1.step (hb)) (And.intro (HF.out.2.2.2.2.2.1.below (hb)) (HF.out.2.2.2.2.2.2.below (hb))))))))
        refine hK _ _ (fun _ => HF'.out) ?_
        clear hK K HF hb
        have HF := hide HF'.out
        clear HF'
        refine Calm.take (i := 7) (v := ?_) (a' := ?_) (l' := #[true, true, true, true, true, true, true, true]) (d := some 19) rfl (by kernel_rfl) (by kernel_rfl) (by kernel_rfl) (by kernel_rfl) (fun _ _ _ h => h) HF.out rfl ?_ rfl rfl ?_ ?_
        rotate_left
        · intro w' hF; clear hF; go_simp; try rfl
        rotate_left
        · simp only [Act.put]; exact rfl
        refine Calm.done (by kernel_rfl) ?_
        replace HB := hide HF.out.1
        replace P0 := hide HF.out.2.1
        replace PW := hide HF.out.2.2.1
        replace K1 := hide HF.out.2.2.2.1
        replace K2 := hide HF.out.2.2.2.2.1
        replace IX := hide HF.out.2.2.2.2.2.1
        replace IW := hide HF.out.2.2.2.2.2.2
        clear HF
        go_wp2
        go_roundw
        case rel => exact ⟨k + 1, by omega, by go_num, HB.out, P0.out, sw, mw, lw, cw, PW.out, by rw [HZ.out, Nat.max_eq_left (by have := HG.out; omega)]; exact IW.out⟩
        case measure => simp [intOf]; omega
    · have e : k = zs.length := by omega
      subst e
      have w0' := PW.out.cell0
      have w1' := PW.out.cell1
      have z0 := P0.out.cell0
      have z1 := P0.out.cell1
      have f0' := P0.out.free 0
      have f1' := P0.out.free 1
      go_wp2
      refine ret_rint rfl w.heap.size _ _ _ _ rfl ((P0.out.set0 _).set1 _) rfl ?_
      exact ⟨_, rfl, IW.out.keep (keeps2 P0.out (by simp) (by simp) _ _), below_put HB.out (Nat.le_refl _) _ _⟩
end Go.Proofs.Ytaoagilngfgjbac
