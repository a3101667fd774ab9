/- share.Pass: a program in which nothing is reckoned that a register holds already. -/
import Derived.Test.YtclopelniopjkaaShBg
import Derived.Test.YtclopelniopjkaaShSh
import Derived.Test.YtclopelniopjkaaPgChecksWalk
import Derived.Test.YtclopelniopjkaaPgRight
namespace Go.Proofs.Ytclopelniopjkaa
open Go.RowKit

def ShPassR (w w' : World) (e : Ending) (p : Pg) : Prop := if rightB p = true then ∃ v, e = .returned (.tuple #[v, .int .i64 0]) ∧ OwnPg w' w.heap.size v (shP p) else e = .returned (.tuple #[.agg #[.int .i64 0, .int .i64 0, .slice none 0 0, .slice none 0 0], .int .i64 80])
theorem Try.fieldV (W : World) (x y : Value) : Sem.run Try.prog (Instr.field 60 (.agg #[x, y]) 0) W = .ok x W := by kernel_rfl
theorem row_own_ne {w : World} {g base : Nat} {l : List Int} {v : Value} {k : List Ins} (h : IntRow w g l) (ho : OwnC w base v k) : v.ownBlock ≠ some g := by
  rcases ho.2 with ⟨rfl, _⟩ | ⟨g', cap, cur, rfl, _, hh, _⟩
  · simp [Value.ownBlock]
  · intro e
    have e1 : g' = g := by simpa [Value.ownBlock] using e
    subst e1
    exact absurd (cells_type hh h) (by decide)
theorem own_ne_cells {w : World} {b base : Nat} {v : Value} {k : List Ins} {c : Array Value} {t : TypeId} {f : Nat × Nat} (ho : OwnC w base v k) (hb : w.heap[b]? = some (.cells c t f)) (ht : t ≠ 40) : some b ≠ v.ownBlock := by
  rcases ho.2 with ⟨rfl, _⟩ | ⟨g', cap, cur, rfl, _, hh, _⟩
  · simp [Value.ownBlock]
  · intro e
    have e1 : b = g' := by simpa [Value.ownBlock] using e
    subst e1
    exact absurd (cells_type hb hh) ht
theorem BookAt.grow {w w' : World} {base base' B g m n : Nat} {D : DataW Unit} {s : ShS} {v : Value} {k : List Ins} (h : BookAt w base B g m n D s) (ho : OwnC w base' v k) (hg : w.grownBy w' v.ownBlock) : BookAt w' base B g m n D s := by
  refine ⟨(hg.block B h.box.lt (own_ne_cells ho h.box (by decide))).trans h.box, (hg.block g h.row.lt (own_ne_cells ho h.row (by decide))).trans h.row, h.map.kept hg ?_, h.keys, h.ge⟩
  rcases ho.2 with ⟨rfl, _⟩ | ⟨g', cap, cur, rfl, _, hh, _⟩
  · simp [Value.ownBlock]
  · intro e
    have e1 : m = g' := by simpa [Value.ownBlock] using e
    subst e1
    obtain ⟨es, clock, hm, _⟩ := h.map
    rw [hh] at hm
    simp at hm
theorem aft_held (s : ShS) (n : Int) (i : Ins) : (s.aft n i).held = s.held := by unfold ShS.aft; split <;> rfl
theorem codS_succ (p : Pg) (k : Nat) : codS p (k + 1) = codS p k ++ (runS p k).put k (cd p.code k) := rfl
theorem runS_succ (p : Pg) (k : Nat) : runS p (k + 1) = (runS p k).go k (cd p.code k) := rfl
set_option maxRecDepth 100000 in
set_option maxHeartbeats 8000000 in
theorem spass_any (v : Value) (p : Pg) (w : World) (h : PgAt w v p) :
    Calls Try.prog 23 #[v] w fun e w' => ShPassR w w' e p ∧ Below w.heap.size w w' := by
  have HP := hide h
  obtain ⟨ca, cc, oa, oc, rfl, hc, ho⟩ := h
  have KC := hide hc
  have KO := hide ho
  clear hc ho
  go_enter Try.func23, Try.ntmps23
  go_upto_region 1 with fail
  have b1 := below_alloc w (.cells #[.int .i64 p.ins, .int .i64 p.regs, .slice ca p.code.length cc, .slice oa p.outs.length oc] 25)
  have b2 := below_alloc (w.alloc (.cells #[.int .i64 p.ins, .int .i64 p.regs, .slice ca p.code.length cc, .slice oa p.outs.length oc] 25)) (.cells #[.int .i64 0, .int .i64 0, .slice none 0 0, .slice none 0 0] 25)
  have PX := hide ((Box4.new w 25 (.int .i64 p.ins) (.int .i64 p.regs) (.slice ca p.code.length cc) (.slice oa p.outs.length oc)).step b2)
  have RX := hide (Box4.new (w.alloc (.cells #[.int .i64 p.ins, .int .i64 p.regs, .slice ca p.code.length cc, .slice oa p.outs.length oc] 25)) 25 (.int .i64 0) (.int .i64 0) (.slice none 0 0) (.slice none 0 0))
  rw [World.size_alloc] at RX
  replace KC := hide ((KC.out.below b1).below b2)
  replace KO := hide ((KO.out.below b1).below b2)
  replace HP := hide ((HP.out.below b1).below b2)
  have HB := hide (b1.trans (b2.mono b1.size))
  clear b1 b2
  generalize ((w.alloc (.cells #[.int .i64 p.ins, .int .i64 p.regs, .slice ca p.code.length cc, .slice oa p.outs.length oc] 25)).alloc (.cells #[.int .i64 0, .int .i64 0, .slice none 0 0, .slice none 0 0] 25)) = w1 at *
  obtain ⟨B0, hB⟩ : ∃ B, B = w.heap.size := ⟨_, rfl⟩
  have HZ := hide hB
  rw [← hB] at PX RX ⊢
  clear hB
  obtain ⟨R, hR⟩ : ∃ R, R = B0 + 1 := ⟨_, rfl⟩
  have HR := hide hR
  rw [← hR] at RX ⊢
  clear hR
  have c0 := PX.out.cell0
  have c1 := PX.out.cell1
  have c2 := PX.out.cell2
  have c3 := PX.out.cell3
  have r0 := RX.out.cell0
  have r1 := RX.out.cell1
  have r2 := RX.out.cell2
  have r3 := RX.out.cell3
  have f0 := RX.out.free 0
  have f1 := RX.out.free 1
  have f2 := RX.out.free 2
  have f3 := RX.out.free 3
  go_wp2_with fail
  refine (check_any _ p _ HP.out).mono ?_
  rintro e w2 ⟨rfl, hb⟩
  replace KC := hide (KC.out.below hb)
  replace KO := hide (KO.out.below hb)
  replace HP := hide (HP.out.below hb)
  replace PX := hide (PX.out.step hb)
  replace RX := hide (RX.out.step hb)
  replace HB := hide (HB.out.trans (hb.mono HB.out.size))
  clear hb c0 c1 c2 c3 r0 r1 r2 r3 f0 f1 f2 f3
  cases hr : rightB p with
  | false =>
    have HRR := hide hr
    rw [ck_wrong hr]
    clear hr
    generalize chkK p = kk
    have r0 := RX.out.cell0
    have r1 := RX.out.cell1
    have r2 := RX.out.cell2
    have r3 := RX.out.cell3
    have f0 := RX.out.free 0
    have f1 := RX.out.free 1
    have f2 := RX.out.free 2
    have f3 := RX.out.free 3
    go_wp2
    refine ret_pge rfl R _ _ _ _ rfl (RX.out.put _ _ _ _) rfl ?_
    refine ⟨?_, ?_⟩
    · unfold ShPassR; rw [HRR.out, if_neg (by decide)]; rfl
    · exact below_put4 HB.out (by have := HR.out; have := HZ.out; omega) _ _ _ _
  | true =>
    have HRR := hide hr
    rw [ck_right hr]
    clear hr
    have c0 := PX.out.cell0
    have c1 := PX.out.cell1
    have c2 := PX.out.cell2
    have c3 := PX.out.cell3
    go_wp2_with fail
    refine (begin_any _ p _ HP.out HRR.out).mono ?_
    rintro e w3 ⟨⟨B, g, m, rfl, hk⟩, hb⟩
    have W0 := hide hb
    have BK := hide hk
    clear hb hk c0 c1 c2 c3
    have SO := hide (fun k hk => runS_ok HRR.out k hk)
    have LN := hide (show p.code.length ≤ 16384 from (right_parts HRR.out).2.2.2.1)
    have LG := hide (show p.regs ≤ 128 from (right_parts HRR.out).2.2.1)
    have MB := hide ((right_parts HRR.out).2.2.2.2.2.2.2)
    have c2 := (PX.out.step W0.out).cell2
    go_wp2
    clear c2
    go_loopw [25, 7, 8, 9, 10] (fun kv cv _ _ _ wr => ∃ k : Nat, k ≤ p.code.length ∧ kv = .int .i64 k ∧ Below w2.heap.size w2 wr ∧ (∃ n D, n ≤ k ∧ BookAt wr w2.heap.size B g m n D (runS p k)) ∧ OwnC wr w2.heap.size cv (codS p k)) (fun kv _ _ _ _ _ => p.code.length - (intOf kv).toNat)
    case atStart => exact ⟨0, Nat.zero_le _, rfl, W0.out, ⟨0, _, Nat.le_refl _, BK.out⟩, World.ownsRow_nil _ _ _ _⟩
    case round =>
      clear W0 BK
      obtain ⟨k, hk, rfl, hb, ⟨n, D, hn, hbk⟩, hoc⟩ := hrel
      have W0 := hide hb
      have BK := hide hbk
      have OC := hide hoc
      have NK := hide hn
      clear hb hbk hoc hn
      obtain ⟨wl, hwl⟩ : ∃ wl, wl = wr := ⟨_, rfl⟩
      subst hwl
      by_cases hlt : k < p.code.length
      · have HM := hide (MB.out k hlt)
        have HS := hide (SO.out k hk)
        obtain ⟨b1, o1, rfl, hic⟩ := CodeAt.at (KC.out.below W0.out) hlt
        have EI : Hid (codS p (k + 1) = codS p k ++ (runS p k).put k (cd p.code k) ∧ runS p (k + 1) = (runS p k).go k (cd p.code k)) := hide ⟨rfl, rfl⟩
        generalize hs : runS p k = s at *
        generalize hi : cd p.code k = i at *
        clear hs hi
        obtain ⟨op, to, a, b, c⟩ := i
        obtain ⟨t, rfl⟩ := Int.eq_ofNat_of_zero_le ((may_iff _ _).1 HM.out).2.1.1
        have i0 := hic.cell0
        have i1 := hic.cell1
        have i2 := hic.cell2
        have i3 := hic.cell3
        have i4 := hic.cell4
        dsimp only at i0 i1 i2 i3 i4
        clear hic
        have c2 := (PX.out.step W0.out).cell2
        have hln := LN.out
        go_upto_region 9 with fail
        have hb := below_alloc wl (.cells #[.int .i64 op, .int .i64 (t : Int), .int .i64 a, .int .i64 b, .int .i64 c] 40)
        have IX : Hid (Box5 (wl.alloc (.cells #[.int .i64 op, .int .i64 (t : Int), .int .i64 a, .int .i64 b, .int .i64 c] 40)) wl.heap.size 40 ⟨op, t, a, b, c⟩) := hide (Box5.new wl 40 ⟨op, t, a, b, c⟩)
        have GX := hide W0.out.size
        have OC0 := OC
        replace W0 := hide (W0.out.trans (hb.mono W0.out.size))
        replace BK := hide (BK.out.below hb)
        replace OC := hide (own_below OC.out hb)
        clear hb i0 i1 i2 i3 i4 c2
        have NXO := hide (fun kb hkb => Nat.ne_of_lt (World.ownsRow.lt OC0.out kb hkb).2)
        clear OC0
        generalize wl.alloc (.cells #[.int .i64 op, .int .i64 (t : Int), .int .i64 a, .int .i64 b, .int .i64 c] 40) = w5 at *
        generalize wl.heap.size = X at *
        have k0 := IX.out.cells.cell0
        have k1 := IX.out.cells.cell1
        have k2 := IX.out.cells.cell2
        have k3 := IX.out.cells.cell3
        have k4 := IX.out.cells.cell4
        simp only [Nat.zero_add] at k1 k2 k3 k4
        go_wp2_with fail
        refine (reckon_any p k ⟨op, t, a, b, c⟩ _ w2.heap.size B g m n D s BK.out HS.out HRR.out HM.out (by have := LN.out; omega) (by have := LN.out; have := NK.out; omega)).mono ?_
        rintro e w6 ⟨rfl, ⟨D', n', hn', hbk⟩, hst⟩
        replace IX := hide (BK.out.still_ins IX.out hst)
        replace OC := hide (BK.out.still_own OC.out hst)
        replace W0 := hide (W0.out.trans (hst.below W0.out.size BK.out.ge.1 BK.out.ge.2.1 BK.out.ge.2.2))
        replace BK := hide hbk
        replace NK := hide (show n' ≤ k + 1 by have := NK.out; omega)
        clear hst hbk hn' k0 k1 k2 k3 k4
        have HR1 := hide (HS.out.reck HM.out)
        generalize hv : (s.val (k : Int) ⟨op, t, a, b, c⟩).1 = u at *
        have HU := hide hv
        clear hv
        generalize (s.val (k : Int) ⟨op, t, a, b, c⟩).2 = u2
        have HH := hide (aft_held s k ⟨op, t, a, b, c⟩)
        have ht : t < s.held.length := by have h1 := ((may_iff _ _).1 HM.out).2.1; have h2 := HS.out.len; dsimp only at h1; omega
        have HT := hide ht
        clear ht
        have c0 := BK.out.box.cell0
        rw [HH.out] at c0
        have r1 := BK.out.row.cell (j := t) (by rw [HH.out]; exact HT.out)
        rw [HH.out] at r1
        have hx := HT.out
        have hfd := Try.fieldV
        have k0 := IX.out.cells.cell0
        have k1 := IX.out.cells.cell1
        have k2 := IX.out.cells.cell2
        have k3 := IX.out.cells.cell3
        have k4 := IX.out.cells.cell4
        simp only [Nat.zero_add] at k1 k2 k3 k4
        by_cases he : ot s.held t = u
        · rw [he] at r1
          have HE := hide he
          clear he
          go_upto_region 10 with fail
          have LB := BK.out.box.lt
          have LX := IX.out.lt
          go_region
          clear LB LX k0 k1 k2 k3 k4 c0 r1
          replace IX := hide IX.out.drew
          replace BK := hide BK.out.drew
          replace OC : Hid (OwnC w6.drew w2.heap.size u7 (codS p k)) := hide OC.out
          replace W0 := hide W0.out.drew
          generalize w6.drew = w7 at *
          have c0 := BK.out.box.cell0
          rw [HH.out] at c0
          have r1 := BK.out.row.cell (j := t) (by rw [HH.out]; exact HT.out)
          have k0 := IX.out.cells.cell0
          have k1 := IX.out.cells.cell1
          have k2 := IX.out.cells.cell2
          have k3 := IX.out.cells.cell3
          have k4 := IX.out.cells.cell4
          simp only [Nat.zero_add] at k1 k2 k3 k4
          go_upto_region 12 with fail
          have hf := BK.out.row.free t
          have LB := BK.out.box.lt
          have LX := IX.out.lt
          go_region
          replace W0 := hide (W0.out.setCell (p := ⟨g, t, none⟩) BK.out.ge.2.1 (.int .i64 u)).drew
          replace OC : Hid (OwnC (w7.setCell ⟨g, t, none⟩ (.int .i64 u)).drew w2.heap.size u7 (codS p k)) := hide (own_set_ne OC.out (row_own_ne BK.out.row OC.out) (.int .i64 u))
          have hbs := BK.out.set t u
          rw [Int.toNat_natCast] at hbs
          replace BK := hide hbs.drew
          clear hbs
          generalize (w7.setCell ⟨g, t, none⟩ (.int .i64 u)).drew = w8 at *
          clear k0 k1 k2 k3 k4 c0 r1 hx hf LB LX
          go_wp2
          go_roundw
          case rel =>
            refine ⟨k + 1, by omega, by go_num, W0.out, ⟨n', D', NK.out, ?_⟩, ?_⟩
            · rw [EI.out.2]
              unfold ShS.go
              rw [HU.out]
              exact BK.out
            · rw [EI.out.1]
              have hp : (s.put (k : Int) ⟨op, t, a, b, c⟩) = [] := by
                unfold ShS.put
                rw [HU.out]
                exact if_pos HE.out
              rw [hp]
              first | exact OC.out | (rw [List.append_nil]; exact OC.out)
          case measure => simp [intOf]; omega
        · have HE := hide he
          have he' : (ot s.held t == u) = false := by simpa using he
          generalize hz : ot s.held t = z at r1 he' he
          have HZ2 := hide hz
          clear hz
          go_upto_region 10 with fail
          have LB := BK.out.box.lt
          have LX := IX.out.lt
          go_region
          clear LB LX k0 k1 k2 k3 k4 c0 r1
          replace IX := hide IX.out.drew
          replace BK := hide BK.out.drew
          replace OC : Hid (OwnC w6.drew w2.heap.size u7 (codS p k)) := hide OC.out
          replace W0 := hide W0.out.drew
          generalize w6.drew = w7 at *
          have k0 := IX.out.cells.cell0
          have k1 := IX.out.cells.cell1
          have k2 := IX.out.cells.cell2
          have k3 := IX.out.cells.cell3
          have k4 := IX.out.cells.cell4
          simp only [Nat.zero_add] at k1 k2 k3 k4
          go_wp2_with fail
          clear he he'
          refine (shared_any ⟨op, t, a, b, c⟩ u _ w2.heap.size B g m n' D' _ BK.out (by rw [HH.out]; have h1 := HS.out.len; have h2 := LG.out; omega) (by rw [HH.out]; have h1 := ((may_iff _ _).1 HM.out).2.2.1; have h2 := HS.out.len; dsimp only at h1 ⊢; omega) (by rw [HH.out]; have h1 := ((may_iff _ _).1 HM.out).2.2.2.1; have h2 := HS.out.len; dsimp only at h1 ⊢; omega) (by have h1 := (may_iff _ _).1 HM.out; dsimp only at h1 ⊢; omega) (fun htw => by have h1 := ((may_iff _ _).1 HM.out).2.2.2.2; rcases h1 with h1 | h1 | h1; exact h1; (unfold twoB at htw; rw [h1] at htw; cases htw); (unfold twoB at htw; rw [h1] at htw; cases htw))).mono ?_
          rintro e w8 ⟨rfl, hb⟩
          rw [HH.out]
          obtain ⟨j, hj⟩ : ∃ j, j = shar s.held ⟨op, t, a, b, c⟩ u := ⟨_, rfl⟩
          rw [← hj]
          have HJ := hide hj
          clear hj k0 k1 k2 k3 k4
          replace IX := hide (IX.out.step hb)
          replace BK := hide (BK.out.below hb)
          replace OC := hide (own_below OC.out hb)
          replace W0 := hide (W0.out.trans (hb.mono W0.out.size))
          clear hb
          have hb := below_alloc w8 (.cells #[.int .i64 j.op, .int .i64 j.to, .int .i64 j.a, .int .i64 j.b, .int .i64 j.c] 40)
          have CC : Hid (CodeAt (w8.alloc (.cells #[.int .i64 j.op, .int .i64 j.to, .int .i64 j.a, .int .i64 j.b, .int .i64 j.c] 40)) (.slice (some ⟨w8.heap.size, 0, none⟩) 1 1) [j]) := hide (code1 w8 j rfl)
          replace IX := hide (IX.out.step hb)
          replace BK := hide (BK.out.below hb)
          replace OC := hide (own_below OC.out hb)
          replace W0 := hide (W0.out.trans (hb.mono W0.out.size))
          clear hb
          have hcl := codS_length p k
          go_wp2_with (at_builtin; refine app_code rfl _ _ rfl w2.heap.size _ (codS p k) rfl OC.out _ [j] rfl CC.out (by have h1 := LN.out; have h2 := codS_length p k; simp only [List.length_singleton]; omega) W0.out.size ?_)
          intro v' w9 hown hgrow
          replace IX : Hid (Box5 w9 X 40 ⟨op, t, a, b, c⟩) := hide ((hgrow.block X IX.out.lt (fun e => NXO.out X e.symm rfl)).trans IX.out)
          replace BK := hide (BK.out.grow OC.out hgrow)
          replace W0 := hide (W0.out.grown hgrow W0.out.size (fun g hg => (World.ownsRow.lt OC.out g hg).1))
          replace OC := hide hown
          clear hown hgrow CC hcl
          have c0 := BK.out.box.cell0
          rw [HH.out] at c0
          have r1 := BK.out.row.cell (j := t) (by rw [HH.out]; exact HT.out)
          have k0 := IX.out.cells.cell0
          have k1 := IX.out.cells.cell1
          have k2 := IX.out.cells.cell2
          have k3 := IX.out.cells.cell3
          have k4 := IX.out.cells.cell4
          simp only [Nat.zero_add] at k1 k2 k3 k4
          go_upto_region 12 with fail
          have hf := BK.out.row.free t
          have LB := BK.out.box.lt
          have LX := IX.out.lt
          go_region
          replace W0 := hide (W0.out.setCell (p := ⟨g, t, none⟩) BK.out.ge.2.1 (.int .i64 u)).drew
          replace OC : Hid (OwnC (w9.setCell ⟨g, t, none⟩ (.int .i64 u)).drew w2.heap.size v' (codS p k ++ [j])) := hide (own_set_ne OC.out (row_own_ne BK.out.row OC.out) (.int .i64 u))
          have hbs := BK.out.set t u
          rw [Int.toNat_natCast] at hbs
          replace BK := hide hbs.drew
          clear hbs
          generalize (w9.setCell ⟨g, t, none⟩ (.int .i64 u)).drew = w8 at *
          clear k0 k1 k2 k3 k4 c0 r1 hx hf LB LX
          go_wp2
          go_roundw
          case rel =>
            refine ⟨k + 1, by omega, by go_num, W0.out, ⟨n', D', NK.out, ?_⟩, ?_⟩
            · rw [EI.out.2]
              unfold ShS.go
              rw [HU.out]
              exact BK.out
            · rw [EI.out.1]
              have hp : (s.put (k : Int) ⟨op, t, a, b, c⟩) = [j] := by
                unfold ShS.put
                rw [HU.out]
                exact (if_neg HE.out).trans (by rw [HJ.out])
              rw [hp]
              first | exact OC.out | (rw [List.append_nil]; exact OC.out)
          case measure => simp [intOf]; omega
      · have e : k = p.code.length := by omega
        subst e
        clear hlt
        have LR := hide RX.out.lt
        go_upto_region 14 with fail
        replace BK := hide BK.out.drew
        obtain ⟨va, vcap, hva⟩ := own_slice OC.out
        subst hva
        replace OC : Hid (OwnC wl.drew w2.heap.size _ (codS p p.code.length)) := hide OC.out
        refine wp_calm (fun w' => Below w2.heap.size w2 w' ∧ Box4 w' B0 25 (.int .i64 p.ins) (.int .i64 p.regs) (.slice ca p.code.length cc) (.slice oa p.outs.length oc) ∧ Box4 w' R 25 (.int .i64 0) (.int .i64 0) (.slice none 0 0) (.slice none 0 0)) (fun j => j != 12 && j != 13) 14 #[false, false, false, false, false, false, false, false, false, false, false, false, false, false] (by kernel_rfl) rfl rfl ?_
        have HF := hide (And.intro (W0.out.drew) (And.intro ((PX.out.step W0.out).drew) ((RX.out.step W0.out).drew)))
        generalize wl.drew = wld at *
        refine Calm.takeL 14 (i := 0) (v := ?_) (a' := ?_) (l' := #[true, false, false, false, false, false, false, false, false, false, false, false, false, false]) (d := some 61) (by kernel_rfl) rfl (by kernel_rfl) (by kernel_rfl) (by kernel_rfl) (by kernel_rfl) (fun _ _ _ h => h) HF.out rfl ?_ rfl rfl ?_ ?_
        rotate_left
        · intro w' hF; clear hF; go_simp; try rfl
        rotate_left
        · simp only [Act.put]; exact rfl
        refine Calm.takeL 14 (i := 1) (v := ?_) (a' := ?_) (l' := #[true, true, false, false, false, false, false, false, false, false, false, false, false, false]) (d := some 62) (by kernel_rfl) rfl (by kernel_rfl) (by kernel_rfl) (by kernel_rfl) (by kernel_rfl) (fun _ _ _ h => h) HF.out rfl ?_ rfl rfl ?_ ?_
        rotate_left
        · intro w' hF; have f10 := hF.2.1.cell0; have f11 := hF.2.1.cell1; have f12 := hF.2.1.cell2; have f13 := hF.2.1.cell3; have f20 := hF.2.2.cell0; have f21 := hF.2.2.cell1; have f22 := hF.2.2.cell2; have f23 := hF.2.2.cell3; clear hF; go_simp; try rfl
        rotate_left
        · simp only [Act.put]; exact rfl
        refine Calm.takeL 14 (i := 2) (v := ?_) (a' := ?_) (l' := #[true, true, true, false, false, false, false, false, false, false, false, false, false, false]) (d := some 63) (by kernel_rfl) rfl (by kernel_rfl) (by kernel_rfl) (by kernel_rfl) (by kernel_rfl) (fun _ _ _ h => h) HF.out rfl ?_ rfl rfl ?_ ?_
        rotate_left
        · intro w' hF; clear hF; go_simp; try rfl
        rotate_left
        · simp only [Act.put]; exact rfl
        refine Calm.takeL 14 (i := 3) (v := ?_) (a' := ?_) (l' := #[true, true, true, true, false, false, false, false, false, false, false, false, false, false]) (d := some 64) (by kernel_rfl) rfl (by kernel_rfl) (by kernel_rfl) (by kernel_rfl) (by kernel_rfl) (fun _ _ _ h => h) HF.out rfl ?_ rfl rfl ?_ ?_
        rotate_left
        · intro w' hF; have f10 := hF.2.1.cell0; have f11 := hF.2.1.cell1; have f12 := hF.2.1.cell2; have f13 := hF.2.1.cell3; have f20 := hF.2.2.cell0; have f21 := hF.2.2.cell1; have f22 := hF.2.2.cell2; have f23 := hF.2.2.cell3; clear hF; go_simp; try rfl
        rotate_left
        · simp only [Act.put]; exact rfl
        refine Calm.takeL 14 (i := 4) (v := ?_) (a' := ?_) (l' := #[true, true, true, true, true, false, false, false, false, false, false, false, false, false]) (d := some 65) (by kernel_rfl) rfl (by kernel_rfl) (by kernel_rfl) (by kernel_rfl) (by kernel_rfl) (fun _ _ _ h => h) HF.out rfl ?_ rfl rfl ?_ ?_
        rotate_left
        · intro w' hF; clear hF; go_simp; try rfl
        rotate_left
        · simp only [Act.put]; exact rfl
        refine Calm.takeL 14 (i := 5) (v := ?_) (a' := ?_) (l' := #[true, true, true, true, true, true, false, false, false, false, false, false, false, false]) (d := some 66) (by kernel_rfl) rfl (by kernel_rfl) (by kernel_rfl) (by kernel_rfl) (by kernel_rfl) (fun _ _ _ h => h) HF.out rfl ?_ rfl rfl ?_ ?_
        rotate_left
        · intro w' hF; clear hF; go_simp; try rfl
        rotate_left
        · simp only [Act.put]; exact rfl
        refine Calm.takeL 14 (i := 6) (v := ?_) (a' := ?_) (l' := #[true, true, true, true, true, true, true, false, false, false, false, false, false, false]) (d := some 67) (by kernel_rfl) rfl (by kernel_rfl) (by kernel_rfl) (by kernel_rfl) (by kernel_rfl) (fun _ _ _ h => h) HF.out rfl ?_ rfl rfl ?_ ?_
        rotate_left
        · intro w' hF; clear hF; go_simp; try rfl
        rotate_left
        · simp only [Act.put]; exact rfl
        refine Calm.takeL 14 (i := 7) (v := ?_) (a' := ?_) (l' := #[true, true, true, true, true, true, true, true, false, false, false, false, false, false]) (d := some 68) (by kernel_rfl) rfl (by kernel_rfl) (by kernel_rfl) (by kernel_rfl) (by kernel_rfl) (fun _ _ _ h => h) HF.out rfl ?_ rfl rfl ?_ ?_
        rotate_left
        · intro w' hF; clear hF; go_simp; try rfl
        rotate_left
        · simp only [Act.put]; exact rfl
        refine Calm.takeL 14 (i := 8) (v := ?_) (a' := ?_) (l' := #[true, true, true, true, true, true, true, true, true, false, false, false, false, false]) (d := some 69) (by kernel_rfl) rfl (by kernel_rfl) (by kernel_rfl) (by kernel_rfl) (by kernel_rfl) (fun _ _ _ h => h) HF.out rfl ?_ rfl rfl ?_ ?_
        rotate_left
        · intro w' hF; have f10 := hF.2.1.cell0; have f11 := hF.2.1.cell1; have f12 := hF.2.1.cell2; have f13 := hF.2.1.cell3; have f20 := hF.2.2.cell0; have f21 := hF.2.2.cell1; have f22 := hF.2.2.cell2; have f23 := hF.2.2.cell3; clear hF; go_simp; try rfl
        rotate_left
        · simp only [Act.put]; exact rfl
        refine Calm.one (i := 9) (l' := #[true, true, true, true, true, true, true, true, true, true, false, false, false, false]) (by kernel_rfl) rfl rfl rfl fun K hK => ?_
        go_simp
        refine (valuesOf_any _ p.outs _ w2.heap.size B g m n D (runS p p.code.length) BK.out (KO.out.below HF.out.1) (by have := (right_parts HRR.out).2.2.2.2.2.1; omega) (fun j hj => by have h1 := (right_parts HRR.out).2.2.2.2.2.2.1 j hj; have h2 := (SO.out p.code.length (Nat.le_refl _)).len; omega)).mono ?_
        rintro e w5 ⟨⟨g1, rfl, hg1, _⟩, hb⟩
        replace BK := hide (BK.out.below (hb))
        replace OC := hide (OC.out.below (hb))
        have HF' := hide (And.intro (HF.out.1.trans ((hb).mono HF.out.1.size)) (And.intro (HF.out.2.1.step (hb)) (HF.out.2.2.step (hb))))
        have VO := hide (IntRow.ints hg1 (by have := (right_parts HRR.out).2.2.2.2.2.1; rw [List.length_map]; unfold maxLen; omega))
        refine hK _ _ (fun _ => HF'.out) ?_
        clear hK K HF hb hg1
        have HF := hide HF'.out
        clear HF'
        refine Calm.one (i := 10) (l' := #[true, true, true, true, true, true, true, true, true, true, true, false, false, false]) (by kernel_rfl) rfl rfl rfl fun K hK => ?_
        go_simp
        have hvl : (p.outs.map fun r => ot (runS p p.code.length).held r.toNat).length = p.outs.length := List.length_map _
        have VO2 := VO.out
        rw [hvl] at VO2
        refine (firstHolders_any _ (p.outs.map fun r => ot (runS p p.code.length).held r.toNat) _ w2.heap.size B g m n D (runS p p.code.length) BK.out VO2 (by rw [hvl]; have := (right_parts HRR.out).2.2.2.2.2.1; omega) (by have h2 := (SO.out p.code.length (Nat.le_refl _)).len; have := LG.out; omega)).mono ?_
        rintro e w6 ⟨⟨g2, rfl, hg2, hg3⟩, hb⟩
        replace BK := hide (BK.out.below (hb))
        replace OC := hide (OC.out.below (hb))
        replace VO := hide (VO.out.below (hb))
        have HF' := hide (And.intro (HF.out.1.trans ((hb).mono HF.out.1.size)) (And.intro (HF.out.2.1.step (hb)) (HF.out.2.2.step (hb))))
        have OO := hide ((show OwnO w6 w2.heap.size (.slice (some ⟨g2, 0, none⟩) p.outs.length p.outs.length) (shP p).outs from by have h1 := hg2.own (base := w2.heap.size) (Nat.le_trans HF.out.1.size hg3) (by have := (right_parts HRR.out).2.2.2.2.2.1; simp only [List.length_map]; unfold maxLen; omega); simp only [List.length_map, List.map_map] at h1; unfold shP; exact h1))
        refine hK _ _ (fun _ => HF'.out) ?_
        clear hK K HF hb hg2 hg3 VO2 hvl
        have HF := hide HF'.out
        clear HF'
        refine Calm.takeL 14 (i := 11) (v := ?_) (a' := ?_) (l' := #[true, true, true, true, true, true, true, true, true, true, true, true, false, false]) (d := some 72) (by kernel_rfl) rfl (by kernel_rfl) (by kernel_rfl) (by kernel_rfl) (by kernel_rfl) (fun _ _ _ h => h) HF.out rfl ?_ rfl rfl ?_ ?_
        rotate_left
        · intro w' hF; clear hF; go_simp; try rfl
        rotate_left
        · simp only [Act.put]; exact rfl
        refine Calm.one (i := 12) (l' := #[true, true, true, true, true, true, true, true, true, true, true, true, true, false]) (by kernel_rfl) rfl rfl rfl fun K hK => ?_
        have RX := hide HF.out.2.2
        have HW := hide HF.out.1
        have r0 := RX.out.cell0
        have r1 := RX.out.cell1
        have r2 := RX.out.cell2
        have r3 := RX.out.cell3
        have f0 := RX.out.free 0
        have f1 := RX.out.free 1
        have f2 := RX.out.free 2
        have f3 := RX.out.free 3
        go_simp
        refine hK _ _ (fun h => absurd h (by decide)) ?_
        clear hK K
        refine Calm.one (i := 13) (l' := #[true, true, true, true, true, true, true, true, true, true, true, true, true, true]) (by kernel_rfl) rfl rfl rfl fun K hK => ?_
        go_simp
        refine hK _ _ (fun h => absurd h (by decide)) ?_
        clear hK K
        refine Calm.done (by kernel_rfl) ?_
        clear r0 r1 r2 r3 f0 f1 f2 f3
        go_wp2
        refine ret_pge rfl R _ _ _ _ rfl (RX.out.put _ _ _ _) rfl ?_
        refine ⟨?_, ?_⟩
        · unfold ShPassR
          rw [HRR.out, if_pos rfl]
          refine ⟨_, rfl, _, _, rfl, ?_, ?_⟩
          · exact own_base (own_put OC.out LR.out _ _ _ _) (by have := LR.out; have := HR.out; have := HZ.out; omega)
          · exact own_base (own_put OO.out LR.out _ _ _ _) (by have := LR.out; have := HR.out; have := HZ.out; omega)
        · exact below_put4 (HB.out.trans (HW.out.mono HB.out.size)) (by have := HR.out; have := HZ.out; omega) _ _ _ _
end Go.Proofs.Ytclopelniopjkaa
