/- order.begin: where the values stand ahead of the first instruction. -/
import Derived.Test.YtheakienigmkhaaOrRg
import Derived.Test.YtheakienigmkhaaCalmT
namespace Go.Proofs.Ytheakienigmkhaa
open Go.RowKit Go.Shelf

def ofK (ni m k : Nat) : List Int := (List.range m).map (fun j => if j < k then ((min j ni : Nat) : Int) else 0)
theorem ofK_len (ni m k : Nat) : (ofK ni m k).length = m := by simp [ofK]
theorem ofK_zero (ni m : Nat) : ofK ni m 0 = List.replicate m 0 := by
  apply List.ext_getElem
  · simp [ofK]
  · intro i h1 h2; simp [ofK]
theorem ofK_set (ni m k : Nat) : (ofK ni m k).set k ((min k ni : Nat) : Int) = ofK ni m (k + 1) := by
  apply List.ext_getElem
  · simp [ofK]
  · intro i h1 h2
    rw [List.getElem_set]
    split
    · next e => subst e; simp [ofK]
    · next e =>
      simp only [ofK, List.getElem_map, List.getElem_range]
      by_cases h : i < k
      · rw [if_pos h, if_pos (by omega)]
      · rw [if_neg h, if_neg (by omega)]
theorem ofK_all (p : Pg) (m : Nat) : ofK p.ins.toNat m m = ofL p m := by
  apply List.ext_getElem
  · simp [ofK, ofL]
  · intro i h1 h2
    have h3 : i < m := by simpa [ofK] using h1
    simp [ofK, ofL, h3]
theorem rep_ne2 {w : World} {g g' a n : Nat} (ha : 1 ≤ a) (h : IArr w g (List.replicate a (-1))) (k : IArr w g' (List.replicate n 0)) : g ≠ g' := by
  obtain ⟨q, rfl⟩ : ∃ q, a = q + 1 := ⟨a - 1, by omega⟩
  exact rep_ne h k
def BgR (w w' : World) (e : Ending) (p : Pg) (m : Nat) : Prop := ∃ S gO gU, e = .returned (.pointer (some ⟨S, 0, none⟩)) ∧ Box2 w' S 98 (.slice (some ⟨gO, 0, none⟩) m m) (.slice (some ⟨gU, 0, none⟩) m m) ∧ IArr w' gO (ps0 p).of ∧ IArr w' gU (ps0 p).un ∧ w.heap.size ≤ S ∧ w.heap.size ≤ gO ∧ w.heap.size ≤ gU ∧ gO ≠ gU
set_option maxRecDepth 100000 in
set_option maxHeartbeats 8000000 in
theorem orbegin_any (v : Value) (p : Pg) (w : World) (h : PgAt w v p) (hr : rightB p = true) (gf gs ns : Nat) (hF : IArr w gf (fst_ p)) :
    Calls Try.prog 31 #[v, .agg #[.slice (some ⟨gf, 0, none⟩) (p.ins.toNat + 1) (p.ins.toNat + 1), .slice (some ⟨gs, 0, none⟩) ns ns]] w fun e w' => BgR w w' e p p.regs.toNat ∧ Below w.heap.size w w' := by
  obtain ⟨p1, p2, p3, p4, p5, p6, p7, p8⟩ := right_parts hr
  clear p7 p8
  have FX := hide hF
  clear hF
  have FL : Hid ((fst_ p).length = p.ins.toNat + 1) := hide (fstL_length p _)
  obtain ⟨ca, cc, oa, oc, rfl, _, _⟩ := h
  obtain ⟨m, hm⟩ : ∃ m : Nat, p.regs = m := ⟨p.regs.toNat, by omega⟩
  obtain ⟨ni, hni⟩ : ∃ ni : Nat, p.ins = ni := ⟨p.ins.toNat, by omega⟩
  have hin : p.ins.toNat = ni := by omega
  have hml : m ≤ 128 := by omega
  have hnl : ni ≤ m := by omega
  have hn1 : 1 ≤ ni := by omega
  rw [hin] at FL ⊢
  have OE : Hid (ofK ni m m = (ps0 p).of) := hide (by have h := ofK_all p m; rw [hin] at h; rw [h]; show _ = ofL p p.regs.toNat; rw [hm, Int.toNat_natCast])
  have UE : Hid ((fst_ p).take m ++ List.replicate (m - (ni + 1)) (-1) = (ps0 p).un) := hide (by show _ = (fst_ p).take p.regs.toNat ++ List.replicate (p.regs.toNat - (p.ins.toNat + 1)) (-1); rw [hm, Int.toNat_natCast, hin])
  have HM := hide hm
  have HN := hide hni
  rw [show p.regs.toNat = m by omega]
  clear hm hni hin
  go_enter Try.func31, Try.ntmps31
  go_upto_region 1 with fail
  have b1 := below_alloc w (.cells #[.int .i64 p.ins, .int .i64 p.regs, .slice ca p.code.length cc, .slice oa p.outs.length oc] 25)
  have b2 := below_alloc (w.alloc (.cells #[.int .i64 p.ins, .int .i64 p.regs, .slice ca p.code.length cc, .slice oa p.outs.length oc] 25)) (.cells #[.slice (some ⟨gf, 0, none⟩) (ni + 1) (ni + 1), .slice (some ⟨gs, 0, none⟩) ns ns] 67)
  have PX := hide ((Box4.new w 25 (.int .i64 p.ins) (.int .i64 p.regs) (.slice ca p.code.length cc) (.slice oa p.outs.length oc)).step b2)
  have LX := hide (Box2.new (w.alloc (.cells #[.int .i64 p.ins, .int .i64 p.regs, .slice ca p.code.length cc, .slice oa p.outs.length oc] 25)) 67 (.slice (some ⟨gf, 0, none⟩) (ni + 1) (ni + 1)) (.slice (some ⟨gs, 0, none⟩) ns ns))
  rw [World.size_alloc] at LX
  replace FX := hide ((FX.out.step b1).step b2)
  have HB := hide (b1.trans (b2.mono b1.size))
  clear b1 b2
  generalize (w.alloc (.cells #[.int .i64 p.ins, .int .i64 p.regs, .slice ca p.code.length cc, .slice oa p.outs.length oc] 25)).alloc (.cells #[.slice (some ⟨gf, 0, none⟩) (ni + 1) (ni + 1), .slice (some ⟨gs, 0, none⟩) ns ns] 67) = w1 at *
  obtain ⟨B, hB⟩ : ∃ B, B = w.heap.size := ⟨_, rfl⟩
  have HZ := hide hB
  rw [← hB] at PX LX ⊢
  clear hB
  obtain ⟨Lb, hL⟩ : ∃ Lb, Lb = B + 1 := ⟨_, rfl⟩
  rw [← hL] at LX ⊢
  clear hL
  go_cut [5] from 7 (fun pt wx => ∃ gS gO gU, pt = .pointer (some ⟨gS, 0, none⟩) ∧ Below w1.heap.size w1 wx ∧ Box2 wx gS 98 (.slice (some ⟨gO, 0, none⟩) m m) (.slice (some ⟨gU, 0, none⟩) m m) ∧ IArr wx gO (List.replicate m 0) ∧ IArr wx gU (List.replicate m (-1)) ∧ w1.heap.size ≤ gS ∧ w1.heap.size ≤ gO ∧ w1.heap.size ≤ gU)
  case first =>
    have hmk := run_makeT m (by omega)
    have hrep : Hid (∀ (b : Nat) (w : World), w.cell? ⟨b, 0, none⟩ = some (.int .i64 (-1)) → Calls Try.prog 52 #[.slice (some ⟨b, 0, none⟩) 1 1, .int .i64 (m : Int)] w fun e w' => ∃ g, e = .returned (.slice (some ⟨g, 0, none⟩) m m) ∧ w.heap.size ≤ g ∧ IArr w' g (List.replicate m (-1)) ∧ Below w.heap.size w w') := hide (fun b w hc => rep_m1 b 0 1 m w (by omega) (by omega) hc)
    refine wp_calm (fun w' => Below w1.heap.size w1 w') (fun _ => true) 10 #[false, false, false, false, false, false, false, false, false, false] (by kernel_rfl) rfl rfl ?_
    have HF := hide ((Below.refl w1.heap.size w1).drew)
    generalize w1.drew = w1d at *
    refine Calm.takeL 10 (i := 0) (v := ?_) (a' := ?_) (l' := #[true, false, false, false, false, false, false, false, false, false]) (d := some 7) (by kernel_rfl) rfl (by kernel_rfl) (by kernel_rfl) (by kernel_rfl) (by kernel_rfl) (fun _ _ _ h => h) HF.out rfl ?_ rfl rfl ?_ ?_
    rotate_left
    · intro w' hF; clear hF; go_simp; try rfl
    rotate_left
    · simp only [Act.put]; exact rfl
    refine Calm.takeL 10 (i := 1) (v := ?_) (a' := ?_) (l' := #[true, true, false, false, false, false, false, false, false, false]) (d := some 8) (by kernel_rfl) rfl (by kernel_rfl) (by kernel_rfl) (by kernel_rfl) (by kernel_rfl) (fun _ _ _ h => h) HF.out rfl ?_ rfl rfl ?_ ?_
    rotate_left
    · intro w' hF; have c1 := (PX.out.step hF).cell1; rw [HM.out] at c1; clear hF; go_simp; try rfl
    rotate_left
    · simp only [Act.put]; exact rfl
    refine Calm.takeL 10 (i := 4) (v := ?_) (a' := ?_) (l' := #[true, true, false, false, true, false, false, false, false, false]) (d := some 11) (by kernel_rfl) rfl (by kernel_rfl) (by kernel_rfl) (by kernel_rfl) (by kernel_rfl) (fun _ _ _ h => h) HF.out rfl ?_ rfl rfl ?_ ?_
    rotate_left
    · intro w' hF; clear hF; go_simp; try rfl
    rotate_left
    · simp only [Act.put]; exact rfl
    refine Calm.takeL 10 (i := 5) (v := ?_) (a' := ?_) (l' := #[true, true, false, false, true, true, false, false, false, false]) (d := some 12) (by kernel_rfl) rfl (by kernel_rfl) (by kernel_rfl) (by kernel_rfl) (by kernel_rfl) (fun _ _ _ h => h) HF.out rfl ?_ rfl rfl ?_ ?_
    rotate_left
    · intro w' hF; have c1 := (PX.out.step hF).cell1; rw [HM.out] at c1; clear hF; go_simp; try rfl
    rotate_left
    · simp only [Act.put]; exact rfl
    refine Calm.two (i := 2) (j := 3) (l := #[true, true, true, false, true, true, false, false, false, false]) (l' := #[true, true, false, true, true, true, false, false, false, false]) (by kernel_rfl) rfl rfl rfl rfl rfl rfl (fun K hK => ?_) (fun K hK => ?_)
    · go_simp
      have al := below_alloc w1d (.cells (intCells (List.replicate m 0)).toArray 3)
      have HF' := hide (HF.out.trans ((al).mono HF.out.size))
      have BXO := hide (IArr.new w1d (List.replicate m 0))
      have GEO := hide (HF.out.size)
      refine hK _ _ (fun _ => HF'.out) ?_
      clear hK K HF al
      have HF := hide HF'.out
      clear HF'
      generalize w1d.alloc (.cells (intCells (List.replicate m 0)).toArray 3) = wzO at *
      generalize w1d.heap.size = gO at *
      refine Calm.one (i := 3) (l' := #[true, true, true, true, true, true, false, false, false, false]) (by kernel_rfl) rfl rfl rfl fun K hK => ?_
      go_simp
      have al := below_alloc wzO (.cells #[.int .i64 (-1)] 3)
      have HF' := hide (HF.out.trans ((al).mono HF.out.size))
      have BXA := hide (show IArr (wzO.alloc (.cells #[.int .i64 (-1)] 3)) wzO.heap.size [-1] from IArr.new wzO [-1])
      have LTOA := hide (BXO.out.lt)
      replace BXO := hide (BXO.out.step al)
      have GEA := hide (HF.out.size)
      refine hK _ _ (fun _ => HF'.out) ?_
      clear hK K HF al
      have HF := hide HF'.out
      clear HF'
      generalize wzO.alloc (.cells #[.int .i64 (-1)] 3) = wzA at *
      generalize wzO.heap.size = gA at *
      refine Calm.one (i := 6) (l' := #[true, true, true, true, true, true, true, false, false, false]) (by kernel_rfl) rfl rfl rfl fun K hK => ?_
      go_simp
      refine (hrep.out gA _ (BXA.out.cell (k := 0) (by simp))).mono ?_
      rintro e x1 ⟨gU, rfl, hge, hfr, hb⟩
      have GU := hide (Nat.le_trans HF.out.size hge)
      have RU := hide hfr
      clear hge hfr
      replace BXO := hide (BXO.out.step hb)
      replace BXA := hide (BXA.out.step hb)
      have HF' := hide (HF.out.trans ((hb).mono HF.out.size))
      refine hK _ _ (fun _ => HF'.out) ?_
      clear hK K HF hb
      have HF := hide HF'.out
      clear HF'
      refine Calm.takeL 10 (i := 7) (v := ?_) (a' := ?_) (l' := #[true, true, true, true, true, true, true, true, false, false]) (d := some 14) (by kernel_rfl) rfl (by kernel_rfl) (by kernel_rfl) (by kernel_rfl) (by kernel_rfl) (fun _ _ _ h => h) HF.out rfl ?_ rfl rfl ?_ ?_
      rotate_left
      · intro w' hF; clear hF; go_simp; try rfl
      rotate_left
      · simp only [Act.put]; exact rfl
      refine Calm.one (i := 8) (l' := #[true, true, true, true, true, true, true, true, true, false]) (by kernel_rfl) rfl rfl rfl fun K hK => ?_
      go_simp
      have al := below_alloc x1 (.cells #[.slice (some ⟨gO, 0, none⟩) m m, .slice (some ⟨gU, 0, none⟩) m m] 98)
      replace RU := hide (RU.out.step al)
      have HF' := hide (HF.out.trans ((al).mono HF.out.size))
      have BXS := hide (Box2.new x1 98 (.slice (some ⟨gO, 0, none⟩) m m) (.slice (some ⟨gU, 0, none⟩) m m))
      have LTOS := hide (BXO.out.lt)
      replace BXO := hide (BXO.out.step al)
      have LTAS := hide (BXA.out.lt)
      replace BXA := hide (BXA.out.step al)
      have GES := hide (HF.out.size)
      refine hK _ _ (fun _ => HF'.out) ?_
      clear hK K HF al
      have HF := hide HF'.out
      clear HF'
      generalize x1.alloc (.cells #[.slice (some ⟨gO, 0, none⟩) m m, .slice (some ⟨gU, 0, none⟩) m m] 98) = wzS at *
      generalize x1.heap.size = gS at *
      refine Calm.takeL 10 (i := 9) (v := ?_) (a' := ?_) (l' := #[true, true, true, true, true, true, true, true, true, true]) (d := some 5) (by kernel_rfl) rfl (by kernel_rfl) (by kernel_rfl) (by kernel_rfl) (by kernel_rfl) (fun _ _ _ h => h) HF.out rfl ?_ rfl rfl ?_ ?_
      rotate_left
      · intro w' hF; clear hF; go_simp; try rfl
      rotate_left
      · simp only [Act.put]; exact rfl
      refine Calm.done (by kernel_rfl) ?_
      try simp only [List.setIfInBounds_toArray, List.set_cons_succ, List.set_cons_zero]
      go_wp2
      go_meet
      case rel => exact ⟨gS, gO, gU, rfl, HF.out, BXS.out, BXO.out, RU.out, GES.out, GEO.out, GU.out⟩
    · go_simp
      have al := below_alloc w1d (.cells #[.int .i64 (-1)] 3)
      have HF' := hide (HF.out.trans ((al).mono HF.out.size))
      have BXA := hide (show IArr (w1d.alloc (.cells #[.int .i64 (-1)] 3)) w1d.heap.size [-1] from IArr.new w1d [-1])
      have GEA := hide (HF.out.size)
      refine hK _ _ (fun _ => HF'.out) ?_
      clear hK K HF al
      have HF := hide HF'.out
      clear HF'
      generalize w1d.alloc (.cells #[.int .i64 (-1)] 3) = wzA at *
      generalize w1d.heap.size = gA at *
      refine Calm.two (i := 2) (j := 6) (l := #[true, true, true, true, true, true, false, false, false, false]) (l' := #[true, true, false, true, true, true, true, false, false, false]) (by kernel_rfl) rfl rfl rfl rfl rfl rfl (fun K hK => ?_) (fun K hK => ?_)
      · go_simp
        have al := below_alloc wzA (.cells (intCells (List.replicate m 0)).toArray 3)
        have HF' := hide (HF.out.trans ((al).mono HF.out.size))
        have BXO := hide (IArr.new wzA (List.replicate m 0))
        have LTAO := hide (BXA.out.lt)
        replace BXA := hide (BXA.out.step al)
        have GEO := hide (HF.out.size)
        refine hK _ _ (fun _ => HF'.out) ?_
        clear hK K HF al
        have HF := hide HF'.out
        clear HF'
        generalize wzA.alloc (.cells (intCells (List.replicate m 0)).toArray 3) = wzO at *
        generalize wzA.heap.size = gO at *
        refine Calm.one (i := 6) (l' := #[true, true, true, true, true, true, true, false, false, false]) (by kernel_rfl) rfl rfl rfl fun K hK => ?_
        go_simp
        refine (hrep.out gA _ (BXA.out.cell (k := 0) (by simp))).mono ?_
        rintro e x1 ⟨gU, rfl, hge, hfr, hb⟩
        have GU := hide (Nat.le_trans HF.out.size hge)
        have RU := hide hfr
        clear hge hfr
        replace BXA := hide (BXA.out.step hb)
        replace BXO := hide (BXO.out.step hb)
        have HF' := hide (HF.out.trans ((hb).mono HF.out.size))
        refine hK _ _ (fun _ => HF'.out) ?_
        clear hK K HF hb
        have HF := hide HF'.out
        clear HF'
        refine Calm.takeL 10 (i := 7) (v := ?_) (a' := ?_) (l' := #[true, true, true, true, true, true, true, true, false, false]) (d := some 14) (by kernel_rfl) rfl (by kernel_rfl) (by kernel_rfl) (by kernel_rfl) (by kernel_rfl) (fun _ _ _ h => h) HF.out rfl ?_ rfl rfl ?_ ?_
        rotate_left
        · intro w' hF; clear hF; go_simp; try rfl
        rotate_left
        · simp only [Act.put]; exact rfl
        refine Calm.one (i := 8) (l' := #[true, true, true, true, true, true, true, true, true, false]) (by kernel_rfl) rfl rfl rfl fun K hK => ?_
        go_simp
        have al := below_alloc x1 (.cells #[.slice (some ⟨gO, 0, none⟩) m m, .slice (some ⟨gU, 0, none⟩) m m] 98)
        replace RU := hide (RU.out.step al)
        have HF' := hide (HF.out.trans ((al).mono HF.out.size))
        have BXS := hide (Box2.new x1 98 (.slice (some ⟨gO, 0, none⟩) m m) (.slice (some ⟨gU, 0, none⟩) m m))
        have LTAS := hide (BXA.out.lt)
        replace BXA := hide (BXA.out.step al)
        have LTOS := hide (BXO.out.lt)
        replace BXO := hide (BXO.out.step al)
        have GES := hide (HF.out.size)
        refine hK _ _ (fun _ => HF'.out) ?_
        clear hK K HF al
        have HF := hide HF'.out
        clear HF'
        generalize x1.alloc (.cells #[.slice (some ⟨gO, 0, none⟩) m m, .slice (some ⟨gU, 0, none⟩) m m] 98) = wzS at *
        generalize x1.heap.size = gS at *
        refine Calm.takeL 10 (i := 9) (v := ?_) (a' := ?_) (l' := #[true, true, true, true, true, true, true, true, true, true]) (d := some 5) (by kernel_rfl) rfl (by kernel_rfl) (by kernel_rfl) (by kernel_rfl) (by kernel_rfl) (fun _ _ _ h => h) HF.out rfl ?_ rfl rfl ?_ ?_
        rotate_left
        · intro w' hF; clear hF; go_simp; try rfl
        rotate_left
        · simp only [Act.put]; exact rfl
        refine Calm.done (by kernel_rfl) ?_
        try simp only [List.setIfInBounds_toArray, List.set_cons_succ, List.set_cons_zero]
        go_wp2
        go_meet
        case rel => exact ⟨gS, gO, gU, rfl, HF.out, BXS.out, BXO.out, RU.out, GES.out, GEO.out, GU.out⟩
      · go_simp
        refine (hrep.out gA _ (BXA.out.cell (k := 0) (by simp))).mono ?_
        rintro e x1 ⟨gU, rfl, hge, hfr, hb⟩
        have GU := hide (Nat.le_trans HF.out.size hge)
        have RU := hide hfr
        clear hge hfr
        replace BXA := hide (BXA.out.step hb)
        have HF' := hide (HF.out.trans ((hb).mono HF.out.size))
        refine hK _ _ (fun _ => HF'.out) ?_
        clear hK K HF hb
        have HF := hide HF'.out
        clear HF'
        refine Calm.one (i := 2) (l' := #[true, true, true, true, true, true, true, false, false, false]) (by kernel_rfl) rfl rfl rfl fun K hK => ?_
        go_simp
        have al := below_alloc x1 (.cells (intCells (List.replicate m 0)).toArray 3)
        replace RU := hide (RU.out.step al)
        have HF' := hide (HF.out.trans ((al).mono HF.out.size))
        have BXO := hide (IArr.new x1 (List.replicate m 0))
        have LTAO := hide (BXA.out.lt)
        replace BXA := hide (BXA.out.step al)
        have GEO := hide (HF.out.size)
        refine hK _ _ (fun _ => HF'.out) ?_
        clear hK K HF al
        have HF := hide HF'.out
        clear HF'
        generalize x1.alloc (.cells (intCells (List.replicate m 0)).toArray 3) = wzO at *
        generalize x1.heap.size = gO at *
        refine Calm.takeL 10 (i := 7) (v := ?_) (a' := ?_) (l' := #[true, true, true, true, true, true, true, true, false, false]) (d := some 14) (by kernel_rfl) rfl (by kernel_rfl) (by kernel_rfl) (by kernel_rfl) (by kernel_rfl) (fun _ _ _ h => h) HF.out rfl ?_ rfl rfl ?_ ?_
        rotate_left
        · intro w' hF; clear hF; go_simp; try rfl
        rotate_left
        · simp only [Act.put]; exact rfl
        refine Calm.one (i := 8) (l' := #[true, true, true, true, true, true, true, true, true, false]) (by kernel_rfl) rfl rfl rfl fun K hK => ?_
        go_simp
        have al := below_alloc wzO (.cells #[.slice (some ⟨gO, 0, none⟩) m m, .slice (some ⟨gU, 0, none⟩) m m] 98)
        replace RU := hide (RU.out.step al)
        have HF' := hide (HF.out.trans ((al).mono HF.out.size))
        have BXS := hide (Box2.new wzO 98 (.slice (some ⟨gO, 0, none⟩) m m) (.slice (some ⟨gU, 0, none⟩) m m))
        have LTAS := hide (BXA.out.lt)
        replace BXA := hide (BXA.out.step al)
        have LTOS := hide (BXO.out.lt)
        replace BXO := hide (BXO.out.step al)
        have GES := hide (HF.out.size)
        refine hK _ _ (fun _ => HF'.out) ?_
        clear hK K HF al
        have HF := hide HF'.out
        clear HF'
        generalize wzO.alloc (.cells #[.slice (some ⟨gO, 0, none⟩) m m, .slice (some ⟨gU, 0, none⟩) m m] 98) = wzS at *
        generalize wzO.heap.size = gS at *
        refine Calm.takeL 10 (i := 9) (v := ?_) (a' := ?_) (l' := #[true, true, true, true, true, true, true, true, true, true]) (d := some 5) (by kernel_rfl) rfl (by kernel_rfl) (by kernel_rfl) (by kernel_rfl) (by kernel_rfl) (fun _ _ _ h => h) HF.out rfl ?_ rfl rfl ?_ ?_
        rotate_left
        · intro w' hF; clear hF; go_simp; try rfl
        rotate_left
        · simp only [Act.put]; exact rfl
        refine Calm.done (by kernel_rfl) ?_
        try simp only [List.setIfInBounds_toArray, List.set_cons_succ, List.set_cons_zero]
        go_wp2
        go_meet
        case rel => exact ⟨gS, gO, gU, rfl, HF.out, BXS.out, BXO.out, RU.out, GES.out, GEO.out, GU.out⟩
  case rest =>
    obtain ⟨gS, gO, gU, rfl, hb, hbs, hro, hru, g1, g2, g3⟩ := hcut
    have NE : Hid (gO ≠ gU) := hide (Ne.symm (rep_ne2 (by omega) hru hro))
    have LB := hide (And.intro LX.out.lt (And.intro FX.out.lt (Box4.lt PX.out)))
    have SX := hide hbs
    have RO := hide hro
    have RU := hide hru
    have GG := hide (And.intro g1 (And.intro g2 g3))
    have W1 := hide HB.out.size
    replace HB := hide (HB.out.trans (hb.mono HB.out.size))
    replace PX := hide (PX.out.step hb)
    replace LX := hide (LX.out.step hb)
    replace FX := hide (FX.out.step hb)
    clear hb hbs hro hru g1 g2 g3
    obtain ⟨w2, hw2⟩ : ∃ w2, w2 = wc := ⟨_, rfl⟩
    subst hw2
    rw [← ofK_zero ni] at RO
    have NS : Hid (gO ≠ gS ∧ gU ≠ gS ∧ gO ≠ B) := hide ⟨RO.out.ne_cells SX.out (by decide), RU.out.ne_cells SX.out (by decide), RO.out.ne_cells PX.out (by decide)⟩
    have cS := SX.out.cell0
    go_wp2
    clear cS
    go_loopw [6, 21] (fun _ kv wr => ∃ k : Nat, k ≤ m ∧ kv = .int .i64 k ∧ IArr wr gO (ofK ni m k) ∧ (∀ b, b < w2.heap.size → b ≠ gO → wr.heap[b]? = w2.heap[b]?) ∧ Below w.heap.size w wr) (fun _ kv _ => m - (intOf kv).toNat)
    case atStart => exact ⟨0, Nat.zero_le _, rfl, RO.out, fun _ _ _ => rfl, HB.out⟩
    case round =>
      clear RO HB
      obtain ⟨k, hk, rfl, hro, hkp, hb⟩ := hrel
      have RO := hide hro
      have KP := hide hkp
      have HB := hide hb
      clear hro hkp hb
      obtain ⟨wl, hwl⟩ : ∃ wl, wl = wr := ⟨_, rfl⟩
      subst hwl
      have SX2 : Hid (Box2 wl gS 98 (.slice (some ⟨gO, 0, none⟩) m m) (.slice (some ⟨gU, 0, none⟩) m m)) := hide ((KP.out gS SX.out.lt (Ne.symm NS.out.1)).trans SX.out)
      have PX2 : Hid (Box4 wl B 25 (.int .i64 p.ins) (.int .i64 p.regs) (.slice ca p.code.length cc) (.slice oa p.outs.length oc)) := hide ((KP.out B (Box4.lt PX.out) (Ne.symm NS.out.2.2)).trans PX.out)
      by_cases hlt : k < m
      · have kl : k < (ofK ni m k).length := by rw [ofK_len]; exact hlt
        have cS := SX2.out.cell0
        have c0 := PX2.out.cell0
        rw [HN.out] at c0
        have ck := RO.out.cell kl
        have fk := RO.out.free k
        go_upto_region 5 with fail
        go_region
        rw [show min (k : Int) (ni : Int) = ((min k ni : Nat) : Int) from by omega]
        have KS := hide (ofK_set ni m k)
        obtain ⟨t, ht⟩ : ∃ t, t = min k ni := ⟨_, rfl⟩
        rw [← ht] at KS ⊢
        clear ht
        have R2 := hide (RO.out.set k (t : Int)).drew
        rw [KS.out] at R2
        have KP2 := hide (show ∀ b, b < w2.heap.size → b ≠ gO → (wl.setCell ⟨gO, k, none⟩ (.int .i64 (t : Int))).drew.heap[b]? = w2.heap[b]? from fun b h1 h2 => (Below.heap_setCell wl ⟨gO, k, none⟩ _ b h2).trans (KP.out b h1 h2))
        have HB2 := hide (HB.out.setCell (p := ⟨gO, k, none⟩) (Nat.le_trans W1.out GG.out.2.1) (.int .i64 (t : Int))).drew
        clear RO KP HB SX2 PX2 cS c0 ck fk KS
        generalize (wl.setCell ⟨gO, k, none⟩ (.int .i64 (t : Int))).drew = wy at *
        go_wp2
        go_roundw
        case rel => exact ⟨k + 1, by omega, by go_num, R2.out, KP2.out, HB2.out⟩
        case measure => simp [intOf]; omega
      · have e : k = m := by omega
        subst e
        have FX2 : Hid (IArr wl gf (fst_ p)) := hide ((KP.out gf FX.out.lt (fun e => by have h1 := LB.out.2.1; have h2 := GG.out.2.1; omega)).trans FX.out)
        have LX2 : Hid (Box2 wl Lb 67 (.slice (some ⟨gf, 0, none⟩) (ni + 1) (ni + 1)) (.slice (some ⟨gs, 0, none⟩) ns ns)) := hide ((KP.out Lb LX.out.lt (fun e => by have h1 := LB.out.1; have h2 := GG.out.2.1; omega)).trans LX.out)
        have RU2 : Hid (IArr wl gU (List.replicate k (-1))) := hide ((KP.out gU RU.out.lt (Ne.symm NE.out)).trans RU.out)
        obtain ⟨i0, hi, hz0, hz1, hz2⟩ := info_parts info_int
        have HI := hide (show (Try.prog.info? 3).map (·.size) = some 1 by rw [hi]; simp [hz1])
        clear hi hz0 hz1 hz2
        have H1 : Hid ((intCells ((fst_ p).take k)).length = Nat.min (ni + 1) k) := hide (by have := FL.out; rw [intCells_length, List.length_take, this]; show min k (ni + 1) = min (ni + 1) k; omega)
        have H2 : Hid (0 < (intCells ((fst_ p).take k)).length → (some (⟨gU, 0, none⟩ : Addr)) = some ⟨gU, 0, none⟩ ∧ ∃ ad, (some (⟨gf, 0, none⟩ : Addr)) = some ad ∧ ∀ j u, (intCells ((fst_ p).take k))[j]? = some u → wl.drew.cell? (ad.add j) = some u) := hide (fun _ => ⟨rfl, _, rfl, fun j u hu => by
          have hj : j < ((fst_ p).take k).length := by
            have := (List.getElem?_eq_some_iff.1 hu).1
            rw [intCells_length] at this
            exact this
          rw [intCells_get _ _ hj] at hu
          cases hu
          have hadd : (⟨gf, 0, none⟩ : Addr).add j = ⟨gf, 0 + j, none⟩ := by unfold Addr.add; split <;> simp_all
          rw [hadd, Nat.zero_add]
          rw [List.length_take] at hj
          have hc := FX2.out.cell (k := j) (by omega)
          rw [ot_take (by omega)]
          exact hc⟩)
        have H3 : Hid (0 + (intCells ((fst_ p).take k)).length ≤ (intCells (List.replicate k (-1))).length) := hide (by rw [intCells_length, intCells_length, List.length_take, List.length_replicate]; omega)
        have cS1 := SX2.out.cell1
        have cL0 := LX2.out.cell0
        go_upto_region 7 with fail
        have H2a : Hid (∀ j u, (intCells ((fst_ p).take k))[j]? = some u → wl.drew.cell? ((⟨gf, 0, none⟩ : Addr).add j) = some u) := hide (fun j u hu => by
          obtain ⟨ad, e, h⟩ := (H2.out (by have := (List.getElem?_eq_some_iff.1 hu).1; omega)).2
          cases e
          exact h j u hu)
        go_region_law (refine step_copy_only rfl (.tmp 38) (.tmp 40) 23 23 rfl 3 Try.underlying23 HI.out gU 0 k k ⟨gf, 0, none⟩ (ni + 1) (ni + 1) (by simp [Act.eval]) (by simp [Act.eval]) (intCells (List.replicate k (-1))) 3 RU2.out (intCells ((fst_ p).take k)) H1.out H2a.out H3.out (int_one _) w.heap.size w HB.out.drew (Nat.le_trans W1.out GG.out.2.2) ?_; intro w4 hg4 hk4 hb4)
        all_goals
          have U4 : Hid (IArr w4 gU (ps0 p).un) := hide (by
            have h := hg4.out
            unfold splice at h
            rw [List.take_zero, List.nil_append, Nat.zero_add] at h
            rw [← UE.out]
            have e : intCells ((fst_ p).take k) ++ (intCells (List.replicate k (-1))).drop (intCells ((fst_ p).take k)).length = intCells ((fst_ p).take k ++ List.replicate (k - (ni + 1)) (-1)) := by
              have := FL.out
              rw [intCells_append, intCells_length, List.length_take, this]
              congr 1
              unfold intCells
              rw [List.map_replicate, List.drop_replicate, List.map_replicate]
              congr 1
              omega
            rw [e] at h
            exact h)
          have S4 : Hid (Box2 w4 gS 98 (.slice (some ⟨gO, 0, none⟩) k k) (.slice (some ⟨gU, 0, none⟩) k k)) := hide ((hk4 gS (Ne.symm NS.out.2.1)).trans SX2.out)
          have O4 : Hid (IArr w4 gO (ps0 p).of) := hide (by rw [← OE.out]; exact (hk4 gO NE.out).trans RO.out)
          have B4 := hide hb4
          clear hg4 hk4 hb4 cS1 cL0
          try simp only [Act.put, List.getElem_toArray, List.getElem_cons_zero, List.getElem_cons_succ, List.setIfInBounds_toArray, List.set_cons_succ, List.set_cons_zero]
          go_wp2
          go_ret
          unfold BgR
          exact ⟨⟨gS, gO, gU, rfl, S4.out, O4.out, U4.out, Nat.le_trans W1.out GG.out.1, Nat.le_trans W1.out GG.out.2.1, Nat.le_trans W1.out GG.out.2.2, NE.out⟩, B4.out⟩
end Go.Proofs.Ytheakienigmkhaa
