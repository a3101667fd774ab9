/- swageref15.Pass: the program without its idle instructions, as the document has it. -/
import Derived.Test.YtcciojlbfaanmaaDdRi
import Derived.Test.YtcciojlbfaanmaaPgRaise
import Derived.Test.YtcciojlbfaanmaaPgJoin1
import Derived.Test.YtcciojlbfaanmaaCalmL
namespace Go.Proofs.Ytcciojlbfaanmaa
open Go.RowKit

theorem boxRow {W : World} {b base n size : Nat} {v : Value} {e t : TypeId} {x y z u : Value} {xs : List Value} (h : W.ownsRow base e size v n xs) (hb : Box4 W b t x y z u) (hne : e ≠ t) : v.ownBlock ≠ some b := by
  rcases h.2 with ⟨rfl, _⟩ | ⟨g, cap, cur, rfl, _, hh, _⟩
  · simp [Value.ownBlock]
  · intro e1
    have e1 : g = b := by simpa [Value.ownBlock] using e1
    subst e1
    rw [show W.heap[g]? = _ from hb] at hh
    simp only [Option.some.injEq, Obj.cells.injEq] at hh
    exact hne hh.2.1.symm
theorem rowRow {W : World} {base base' n m size size' : Nat} {v u : Value} {e t : TypeId} {xs ys : List Value} (h : W.ownsRow base e size v n xs) (k : W.ownsRow base' t size' u m ys) (hne : e ≠ t) : v.ownBlock = none ∨ v.ownBlock ≠ u.ownBlock := by
  rcases h.2 with ⟨rfl, _⟩ | ⟨g, cap, cur, rfl, _, hh, _⟩
  · exact .inl rfl
  · right
    rcases k.2 with ⟨rfl, _⟩ | ⟨g', cap', cur', rfl, _, hh', _⟩
    · simp [Value.ownBlock]
    · intro e1
      have e1 : g = g' := by simpa [Value.ownBlock] using e1
      subst e1
      rw [hh] at hh'
      simp only [Option.some.injEq, Obj.cells.injEq] at hh'
      exact hne hh'.2.1
/-- the state of the loop that puts together what is left -/
structure QD (w0 : World) (B R O : Nat) (p : Pg) (pc po vi vo vc : Value) (x : List Ins) (w : World) : Prop where
  bel : Below w0.heap.size w0 w
  px : Box4 w B 25 (.int .i64 p.ins) (.int .i64 p.regs) pc po
  rx : Box4 w R 25 (.int .i64 0) (.int .i64 0) (.slice none 0 0) (.slice none 0 0)
  ox : Box4 w O 25 (.int .i64 p.ins) (.int .i64 p.regs) vc vo
  oc : OwnC w w0.heap.size vc x
  oo : OwnO w w0.heap.size vo p.outs
  ob : OwnB w w0.heap.size vi (idL p)
  ne : B ≠ O ∧ R ≠ O ∧ w0.heap.size ≤ O ∧ w0.heap.size ≤ R
theorem own_putR {W : World} {base R n size : Nat} {e : TypeId} {v x y z u : Value} {xs : List Value} (h : W.ownsRow base e size v n xs) (hb : Box4 W R 25 x y z u) (a b c d : Value) (hne : e ≠ 25 := by decide) : ((((W.setCell ⟨R, 0, none⟩ a).setCell ⟨R, 1, none⟩ b).setCell ⟨R, 2, none⟩ c).setCell ⟨R, 3, none⟩ d).ownsRow base e size v n xs :=
  have n1 := boxRow h hb hne
  own_set_ne (own_set_ne (own_set_ne (own_set_ne h n1 _) n1 _) n1 _) n1 _
section
variable {w0 w w' : World} {B R O : Nat} {p : Pg} {pc po vi vo vc : Value} {x : List Ins}
theorem QD.step (h : QD w0 B R O p pc po vi vo vc x w) (hb : Below w.heap.size w w') : QD w0 B R O p pc po vi vo vc x w' :=
  ⟨h.bel.trans (hb.mono h.bel.size), h.px.step hb, h.rx.step hb, h.ox.step hb, own_below h.oc hb, own_below h.oo hb, own_below h.ob hb, h.ne⟩
theorem QD.drew (h : QD w0 B R O p pc po vi vo vc x w) : QD w0 B R O p pc po vi vo vc x w.drew := h.step (Below.refl _ _).drew
theorem QD.grow (h : QD w0 B R O p pc po vi vo vc x w) (hg : w.grownBy w' vc.ownBlock) : Box4 w' O 25 (.int .i64 p.ins) (.int .i64 p.regs) vc vo :=
  (hg.block O h.ox.lt (fun e => boxRow h.oc h.ox (by decide) e.symm)).trans h.ox
theorem QD.app {v' : Value} {x' : List Ins} (h : QD w0 B R O p pc po vi vo vc x w) (hg : w.grownBy w' vc.ownBlock) (ho : OwnC w' w0.heap.size v' x') : QD w0 B R O p pc po vi vo v' x' (w'.setCell ⟨O, 2, none⟩ v') := by
  have ox' := h.grow hg
  have px' : Box4 w' B _ _ _ _ _ := (hg.block B h.px.lt (fun e => boxRow h.oc h.px (by decide) e.symm)).trans h.px
  have rx' : Box4 w' R _ _ _ _ _ := (hg.block R h.rx.lt (fun e => boxRow h.oc h.rx (by decide) e.symm)).trans h.rx
  have oo' := World.ownsRow.kept h.oo hg (rowRow h.oo h.oc (by decide))
  have ob' := World.ownsRow.kept h.ob hg (rowRow h.ob h.oc (by decide))
  exact ⟨(h.bel.grown hg h.bel.size (fun k hk => (World.ownsRow.lt h.oc k hk).1)).setCell (p := ⟨O, 2, none⟩) h.ne.2.2.1 _, px'.set_ne (fun e => h.ne.1 e.symm) _, rx'.set_ne (fun e => h.ne.2.1 e.symm) _, ox'.set2 _, own_set_ne ho (boxRow ho ox' (by decide)) _, own_set_ne oo' (boxRow oo' ox' (by decide)) _, own_set_ne ob' (boxRow ob' ox' (by decide)) _, h.ne⟩
end
set_option maxRecDepth 100000 in
set_option maxHeartbeats 8000000 in
theorem rdpass_any (v : Value) (p : Pg) (w : World) (h : PgAt w v p) (hr : rightB p = true) :
    Calls Try.prog 28 #[v] w fun e w' => (∃ v, e = .returned v ∧ OwnPg w' w.heap.size v (ddP p)) ∧ Below w.heap.size w w' := by
  have HP := hide h
  have HRR := hide hr
  have LN := hide (show p.code.length ≤ 16384 from (right_parts hr).2.2.2.1)
  have LO := hide (show p.outs.length ≤ 128 from (right_parts hr).2.2.2.2.2.1)
  obtain ⟨ca, cc, oa, oc, rfl, hc, ho⟩ := h
  have KC := hide hc
  clear hc ho hr
  have HPW := HP
  go_enter Try.func28, Try.ntmps28
  go_upto_region 1 with fail
  have b1 := below_alloc w (.cells #[.int .i64 p.ins, .int .i64 p.regs, .slice ca p.code.length cc, .slice oa p.outs.length oc] 25)
  have b2 := below_alloc (w.alloc (.cells #[.int .i64 p.ins, .int .i64 p.regs, .slice ca p.code.length cc, .slice oa p.outs.length oc] 25)) (.cells #[.int .i64 0, .int .i64 0, .slice none 0 0, .slice none 0 0] 25)
  have PX := hide ((Box4.new w 25 (.int .i64 p.ins) (.int .i64 p.regs) (.slice ca p.code.length cc) (.slice oa p.outs.length oc)).step b2)
  have RX := hide (Box4.new (w.alloc (.cells #[.int .i64 p.ins, .int .i64 p.regs, .slice ca p.code.length cc, .slice oa p.outs.length oc] 25)) 25 (.int .i64 0) (.int .i64 0) (.slice none 0 0) (.slice none 0 0))
  rw [World.size_alloc] at RX
  replace HP := hide ((HP.out.below b1).below b2)
  have HB := hide (b1.trans (b2.mono b1.size))
  clear b1 b2
  generalize ((w.alloc (.cells #[.int .i64 p.ins, .int .i64 p.regs, .slice ca p.code.length cc, .slice oa p.outs.length oc] 25)).alloc (.cells #[.int .i64 0, .int .i64 0, .slice none 0 0, .slice none 0 0] 25)) = w1 at *
  obtain ⟨B0, hB⟩ : ∃ B, B = w.heap.size := ⟨_, rfl⟩
  have HZ := hide hB
  rw [← hB] at PX RX ⊢
  clear hB
  obtain ⟨R, hR⟩ : ∃ R, R = B0 + 1 := ⟨_, rfl⟩
  have HR := hide hR
  rw [← hR] at RX ⊢
  clear hR
  have c0 := PX.out.cell0
  have c1 := PX.out.cell1
  have c2 := PX.out.cell2
  have c3 := PX.out.cell3
  go_wp2_with fail
  refine (rcopy_big _ p _ HP.out ⟨by have := LN.out; omega, by have := LO.out; omega⟩).mono ?_
  rintro e w2 ⟨⟨vk, rfl, hown⟩, hb⟩
  obtain ⟨vkc, vko, hv, hkc, hko⟩ := hown
  obtain ⟨a3, k3, hk3⟩ := own_slice hkc
  obtain ⟨a4, k4, hk4⟩ := own_slice hko
  subst hk3 hk4
  replace hv : vk = .agg #[.int .i64 p.ins, .int .i64 p.regs, .slice a3 p.code.length k3, .slice a4 p.outs.length k4] := hv
  subst hv
  replace HP := hide (HP.out.below hb)
  replace PX := hide (PX.out.step hb)
  replace RX := hide (RX.out.step hb)
  have OO : Hid (OwnO w2 w.heap.size (.slice a4 p.outs.length k4) p.outs) := hide (own_base hko HB.out.size)
  replace HB := hide (HB.out.trans (hb.mono HB.out.size))
  clear hb hkc hko c0 c1 c2 c3
  go_upto_region 2 with fail
  have hb := below_alloc w2 (.cells #[.int .i64 p.ins, .int .i64 p.regs, .slice a3 p.code.length k3, .slice a4 p.outs.length k4] 25)
  have OX := hide (Box4.new w2 25 (.int .i64 p.ins) (.int .i64 p.regs) (.slice a3 p.code.length k3) (.slice a4 p.outs.length k4))
  have LR := hide RX.out.lt
  have LB := hide PX.out.lt
  replace HP := hide (HP.out.below hb)
  replace PX := hide (PX.out.step hb)
  replace RX := hide (RX.out.step hb)
  replace OO := hide (own_below OO.out hb)
  have GO := hide HB.out.size
  replace HB := hide (HB.out.trans (hb.mono HB.out.size))
  clear hb
  generalize w2.alloc (.cells #[.int .i64 p.ins, .int .i64 p.regs, .slice a3 p.code.length k3, .slice a4 p.outs.length k4] 25) = w3 at *
  generalize w2.heap.size = O at *
  have o2 := OX.out.cell2
  have f2 := OX.out.free 2
  go_upto_region 3 with fail
  clear o2 f2
  have OX2 := hide (OX.out.set2 (.slice none 0 0))
  replace PX := hide (PX.out.set_ne (C := O) (by have := LB.out; omega) (o := 2) (.slice none 0 0))
  replace RX := hide (RX.out.set_ne (C := O) (by have := LR.out; omega) (o := 2) (.slice none 0 0))
  replace OO : Hid (OwnO (w3.setCell ⟨O, 2, none⟩ (.slice none 0 0)) w.heap.size (.slice a4 p.outs.length k4) p.outs) := hide (own_set_ne OO.out (boxRow OO.out OX.out (by decide)) _)
  have KP3 : Hid (CodeAt (w3.setCell ⟨O, 2, none⟩ (.slice none 0 0)) (.slice ca p.code.length cc) p.code) := hide (KC.out.below (HB.out.setCell (p := ⟨O, 2, none⟩) GO.out _))
  have KO3 : Hid (∃ q, q = (w3.setCell ⟨O, 2, none⟩ (.slice none 0 0)) ∧ PgAt q (.agg #[.int .i64 p.ins, .int .i64 p.regs, .slice ca p.code.length cc, .slice oa p.outs.length oc]) p) := hide ⟨_, rfl, HPW.out.below (HB.out.setCell (p := ⟨O, 2, none⟩) GO.out _)⟩
  replace HB := hide (HB.out.setCell (p := ⟨O, 2, none⟩) GO.out (.slice none 0 0))
  obtain ⟨q, hq, hpq⟩ := KO3.out
  skip
  generalize w3.setCell ⟨O, 2, none⟩ (.slice none 0 0) = w4 at *
  clear KO3 OX HP
  have c0 := PX.out.cell0
  have c1 := PX.out.cell1
  have c2 := PX.out.cell2
  have c3 := PX.out.cell3
  skip
  go_wp2_with fail
  refine (ridle_any _ p _ (by rw [hq] at hpq; exact hpq) HRR.out).mono ?_
  rintro e w5 ⟨⟨vi, rfl, hvi⟩, hb⟩
  obtain ⟨ia, ic, hia⟩ := own_slice hvi
  subst hia
  skip
  have QX : Hid (QD w B0 R O p (.slice ca p.code.length cc) (.slice oa p.outs.length oc) (.slice ia (idL p).length ic) (.slice a4 p.outs.length k4) (.slice none 0 0) (stK p 0) w5) := hide ⟨HB.out.trans (hb.mono HB.out.size), PX.out.step hb, RX.out.step hb, OX2.out.step hb, World.ownsRow_nil _ _ _ _, own_below OO.out hb, own_base hvi HB.out.size, ⟨by have := LB.out; omega, by have := LR.out; omega, GO.out, by have := HR.out; have := HZ.out; omega⟩⟩
  clear hvi hb hpq hq KP3 OX2 PX RX OO HB c0 c1 c2 c3 LB LR GO
  go_upto_region 5 with fail
  go_loopw [5] (fun kv wr => ∃ (k : Nat) (vc : Value), k ≤ p.code.length ∧ kv = .int .i64 (k : Nat) ∧ QD w B0 R O p (.slice ca p.code.length cc) (.slice oa p.outs.length oc) (.slice ia (idL p).length ic) (.slice a4 p.outs.length k4) vc (stK p k) wr) (fun kv _ => p.code.length - (intOf kv).toNat)
  case atStart => exact ⟨0, _, Nat.zero_le _, rfl, QX.out⟩
  case round =>
    clear QX
    obtain ⟨k, vc, hk, rfl, hq⟩ := hrel
    obtain ⟨va, vcap, hva⟩ := own_slice hq.oc
    have QX := hide hq
    have hln := LN.out
    have c2 := hq.px.cell2
    clear hq
    by_cases hlt : k < p.code.length
    · obtain ⟨b1, o1, rfl, hic⟩ := CodeAt.at (KC.out.below QX.out.bel) hlt
      have IX := hide hic
      have hkl : k < (idL p).length := by rw [idL_length]; exact hlt
      obtain ⟨g, hg, hg1⟩ : ∃ g, ia = some ⟨g, 0, none⟩ ∧ wr.cell? ⟨g, k, none⟩ = some (.bool (bl (idL p) k)) := by
        rcases QX.out.ob.2 with ⟨h0, h1⟩ | ⟨g', cap, cur, h0, _⟩
        · omega
        · simp only [Value.slice.injEq] at h0
          obtain ⟨rfl, _, _⟩ := h0
          exact ⟨g', rfl, OwnB.cell QX.out.ob hkl⟩
      subst hg
      clear hic
      have ST := hide (stK_succ p k)
      obtain ⟨i, hi⟩ : ∃ i, i = cd p.code k := ⟨_, rfl⟩
      rw [← hi] at IX ST
      have HI := hide hi
      clear hi
      cases hb : bl (idL p) k with
      | true =>
        rw [hb] at hg1 ST
        go_wp2
        go_roundw
        case rel => exact ⟨k + 1, vc, by omega, by go_num, by rw [ST.out, if_pos rfl]; exact QX.out⟩
        case measure => simp [intOf]; omega
      | false =>
        rw [hb] at hg1 ST
        subst hva
        have NL := hide (stK_length p k)
        obtain ⟨m, hm⟩ : ∃ m, m = (stK p k).length := ⟨_, rfl⟩
        rw [← hm] at QX NL
        have HM := hide hm
        clear hm
        go_upto_region 8 with fail
        clear c2 hg1
        have KLT := hide hlt
        have KI : Hid (∀ w', Below w.heap.size w w' → InsC w' b1 (o1 + k * 5) i) := hide (fun w' hb => by
          obtain ⟨b2, o2, e, h⟩ := CodeAt.at (KC.out.below hb) KLT.out
          cases e
          exact HI.out ▸ h)
        refine wp_calm (fun w' => Below w.heap.size w w' ∧ QD w B0 R O p (.slice (some ⟨b1, o1, none⟩) p.code.length cc) (.slice oa p.outs.length oc) (.slice (some ⟨g, 0, none⟩) (idL p).length ic) (.slice a4 p.outs.length k4) (.slice va m vcap) (stK p k) w') (fun j => j != 8 && j != 9 && j != 10) 11 #[false, false, false, false, false, false, false, false, false, false, false] (by kernel_rfl) rfl rfl ?_
        have HF := hide (And.intro QX.out.bel.drew QX.out.drew)
        generalize wr.drew = wrd at *
        refine Calm.takeL 11 (i := 0) (v := ?_) (a' := ?_) (l' := #[true, false, false, false, false, false, false, false, false, false, false]) (d := some 23) (by kernel_rfl) rfl (by kernel_rfl) (by kernel_rfl) (by kernel_rfl) (by kernel_rfl) (fun _ _ _ h => h) HF.out rfl ?_ rfl rfl ?_ ?_
        rotate_left
        · intro w' hF; clear hF; go_simp; try rfl
        rotate_left
        · simp only [Act.put]; exact rfl
        refine Calm.takeL 11 (i := 1) (v := ?_) (a' := ?_) (l' := #[true, true, false, false, false, false, false, false, false, false, false]) (d := some 24) (by kernel_rfl) rfl (by kernel_rfl) (by kernel_rfl) (by kernel_rfl) (by kernel_rfl) (fun _ _ _ h => h) HF.out rfl ?_ rfl rfl ?_ ?_
        rotate_left
        · intro w' hF; have f0 := hF.2.ox.cell2; have f1 := hF.2.px.cell2; have gg := (KI.out w' hF.1); have q0 := gg.cell0; have q1 := gg.cell1; have q2 := gg.cell2; have q3 := gg.cell3; have q4 := gg.cell4; clear gg; clear hF; go_simp; try rfl
        rotate_left
        · simp only [Act.put]; exact rfl
        refine Calm.takeL 11 (i := 2) (v := ?_) (a' := ?_) (l' := #[true, true, true, false, false, false, false, false, false, false, false]) (d := some 25) (by kernel_rfl) rfl (by kernel_rfl) (by kernel_rfl) (by kernel_rfl) (by kernel_rfl) (fun _ _ _ h => h) HF.out rfl ?_ rfl rfl ?_ ?_
        rotate_left
        · intro w' hF; clear hF; go_simp; try rfl
        rotate_left
        · simp only [Act.put]; exact rfl
        refine Calm.takeL 11 (i := 3) (v := ?_) (a' := ?_) (l' := #[true, true, true, true, false, false, false, false, false, false, false]) (d := some 26) (by kernel_rfl) rfl (by kernel_rfl) (by kernel_rfl) (by kernel_rfl) (by kernel_rfl) (fun _ _ _ h => h) HF.out rfl ?_ rfl rfl ?_ ?_
        rotate_left
        · intro w' hF; have f0 := hF.2.ox.cell2; have f1 := hF.2.px.cell2; have gg := (KI.out w' hF.1); have q0 := gg.cell0; have q1 := gg.cell1; have q2 := gg.cell2; have q3 := gg.cell3; have q4 := gg.cell4; clear gg; clear hF; go_simp; try rfl
        rotate_left
        · simp only [Act.put]; exact rfl
        refine Calm.takeL 11 (i := 4) (v := ?_) (a' := ?_) (l' := #[true, true, true, true, true, false, false, false, false, false, false]) (d := some 27) (by kernel_rfl) rfl (by kernel_rfl) (by kernel_rfl) (by kernel_rfl) (by kernel_rfl) (fun _ _ _ h => h) HF.out rfl ?_ rfl rfl ?_ ?_
        rotate_left
        · intro w' hF; clear hF; go_simp; try rfl
        rotate_left
        · simp only [Act.put]; exact rfl
        refine Calm.takeL 11 (i := 5) (v := ?_) (a' := ?_) (l' := #[true, true, true, true, true, true, false, false, false, false, false]) (d := some 28) (by kernel_rfl) rfl (by kernel_rfl) (by kernel_rfl) (by kernel_rfl) (by kernel_rfl) (fun _ _ _ h => h) HF.out rfl ?_ rfl rfl ?_ ?_
        rotate_left
        · intro w' hF; clear hF; go_simp; try rfl
        rotate_left
        · simp only [Act.put]; exact rfl
        refine Calm.takeL 11 (i := 6) (v := ?_) (a' := ?_) (l' := #[true, true, true, true, true, true, true, false, false, false, false]) (d := some 29) (by kernel_rfl) rfl (by kernel_rfl) (by kernel_rfl) (by kernel_rfl) (by kernel_rfl) (fun _ _ _ h => h) HF.out rfl ?_ rfl rfl ?_ ?_
        rotate_left
        · intro w' hF; have f0 := hF.2.ox.cell2; have f1 := hF.2.px.cell2; have gg := (KI.out w' hF.1); have q0 := gg.cell0; have q1 := gg.cell1; have q2 := gg.cell2; have q3 := gg.cell3; have q4 := gg.cell4; clear gg; clear hF; go_simp; try rfl
        rotate_left
        · simp only [Act.put]; exact rfl
        refine Calm.one (i := 7) (l' := #[true, true, true, true, true, true, true, true, false, false, false]) (by kernel_rfl) rfl rfl rfl fun K hK => ?_
        go_simp
        have al := below_alloc wrd (.cells #[.int .i64 i.op, .int .i64 i.to, .int .i64 i.a, .int .i64 i.b, .int .i64 i.c] 34)
        have HF' := hide (And.intro (HF.out.1.trans ((al).mono HF.out.1.size)) (HF.out.2.step (al)))
        have BXe := hide (code1 wrd i rfl)
        have GEe := hide (HF.out.1.size)
        refine hK _ _ (fun _ => HF'.out) ?_
        clear hK K HF al
        have HF := hide HF'.out
        clear HF'
        generalize wrd.alloc (.cells #[.int .i64 i.op, .int .i64 i.to, .int .i64 i.a, .int .i64 i.b, .int .i64 i.c] 34) = wze at *
        generalize wrd.heap.size = ge at *
        refine Calm.one (i := 8) (l' := #[true, true, true, true, true, true, true, true, true, false, false]) (by kernel_rfl) rfl rfl rfl fun K hK => ?_
        refine wp_appC (.tmp 24) (.tmp 30) rfl w.heap.size _ (stK p k) rfl HF.out.2.oc _ [i] rfl BXe.out (by have := LN.out; have := NL.out; have := HM.out; have := KLT.out; simp only [List.length_singleton]; omega) HF.out.1.size ?_
        intro v' w2 hown hgrow
        obtain ⟨va', vcap', hvv⟩ := own_slice hown
        obtain ⟨m', hm'⟩ : ∃ m', m' = (stK p k ++ [i]).length := ⟨_, rfl⟩
        rw [← hm'] at hvv
        clear hm'
        subst hvv
        have kx' := HF.out.2.grow hgrow
        have y2 := kx'.cell2
        have z2 := kx'.free 2
        have JN := hide (HF.out.2.app hgrow hown)
        clear hgrow hown kx'
        refine hK _ _ (fun h => absurd h (by decide)) ?_
        clear hK K
        refine Calm.one (i := 9) (l' := #[true, true, true, true, true, true, true, true, true, true, false]) (by kernel_rfl) rfl rfl rfl fun K hK => ?_
        go_simp
        refine hK _ _ (fun h => absurd h (by decide)) ?_
        clear hK K
        refine Calm.one (i := 10) (l' := #[true, true, true, true, true, true, true, true, true, true, true]) (by kernel_rfl) rfl rfl rfl fun K hK => ?_
        go_simp
        refine hK _ _ (fun h => absurd h (by decide)) ?_
        clear hK K
        refine Calm.done (by kernel_rfl) ?_
        clear HF BXe
        try simp only [List.setIfInBounds_toArray, List.set_cons_succ, List.set_cons_zero]
        go_wp2
        go_roundw
        case rel => exact ⟨k + 1, _, by have := KLT.out; omega, by go_num, by rw [ST.out, if_neg (by decide)]; exact JN.out⟩
        case measure => have := KLT.out; simp [intOf]; omega
    · have e : k = p.code.length := by omega
      subst e
      subst hva
      have x0 := QX.out.ox.cell0
      have x1 := QX.out.ox.cell1
      have x2 := QX.out.ox.cell2
      have x3 := QX.out.ox.cell3
      have r0 := QX.out.rx.cell0
      have r1 := QX.out.rx.cell1
      have r2 := QX.out.rx.cell2
      have r3 := QX.out.rx.cell3
      have f0 := QX.out.rx.free 0
      have f1 := QX.out.rx.free 1
      have f2 := QX.out.rx.free 2
      have f3 := QX.out.rx.free 3
      go_wp2
      refine ret_pg rfl R _ _ _ _ rfl (QX.out.rx.put _ _ _ _) rfl ?_
      refine ⟨⟨_, rfl, _, _, rfl, ?_, ?_⟩, ?_⟩
      · have h1 := own_putR QX.out.oc QX.out.rx (.int .i64 p.ins) (.int .i64 p.regs) (.slice va (stK p p.code.length).length vcap) (.slice a4 p.outs.length k4)
        rw [← stK_all]
        exact h1
      · exact own_putR QX.out.oo QX.out.rx _ _ _ _
      · exact below_put4 QX.out.bel QX.out.ne.2.2.2 _ _ _ _
end Go.Proofs.Ytcciojlbfaanmaa
