/- order's through: what is needed, on the seats that are given. -/
import Derived.Test.YtheakienigmkhaaOrBg
import Derived.Test.YtheakienigmkhaaPgCopy
import Derived.Test.YtheakienigmkhaaOrM3
namespace Go.Proofs.Ytheakienigmkhaa
open Go.RowKit Go.Shelf

/-- what stands while the code is gone through -/
structure TH (w0 w W : World) (S gO gU m : Nat) (of un : List Int) (vc : Value) (code : List Ins) : Prop where
  bel : Below w0.heap.size w0 W
  sx : Box2 W S 98 (.slice (some ⟨gO, 0, none⟩) m m) (.slice (some ⟨gU, 0, none⟩) m m)
  ro : IArr W gO of
  ru : IArr W gU un
  oc : OwnC W w.heap.size vc code
  kp : ∀ b, b < w.heap.size → b ≠ gO → b ≠ gU → W.heap[b]? = w.heap[b]?
  sz : w.heap.size ≤ W.heap.size
  ge : w0.heap.size ≤ gO ∧ w0.heap.size ≤ gU ∧ gO ≠ gU ∧ gO < w.heap.size ∧ gU < w.heap.size ∧ w0.heap.size ≤ w.heap.size
section
variable {w0 w W W' : World} {S gO gU m : Nat} {of un : List Int} {vc : Value} {code : List Ins}
theorem TH.step (h : TH w0 w W S gO gU m of un vc code) (hb : Below W.heap.size W W') : TH w0 w W' S gO gU m of un vc code :=
  ⟨h.bel.trans (hb.mono h.bel.size), h.sx.step hb, h.ro.step hb, h.ru.step hb, own_below h.oc hb, fun b h1 h2 h3 => (hb.block b (Nat.lt_of_lt_of_le h1 h.sz)).trans (h.kp b h1 h2 h3), Nat.le_trans h.sz hb.size, h.ge⟩
theorem TH.drew (h : TH w0 w W S gO gU m of un vc code) : TH w0 w W.drew S gO gU m of un vc code := ⟨h.bel.drew, h.sx, h.ro, h.ru, h.oc, h.kp, h.sz, h.ge⟩
theorem TH.app (h : TH w0 w W S gO gU m of un vc code) {v' : Value} {l : List Ins} (hg : W.grownBy W' vc.ownBlock) (ho : OwnC W' w.heap.size v' l) : TH w0 w W' S gO gU m of un v' l := by
  have ns : vc.ownBlock ≠ some S := fun e => by
    have h1 := World.ownsRow.lt h.oc S e
    rcases h.oc.2 with ⟨h0, _⟩ | ⟨g', cap, cur, h0, _, hh, _⟩
    · rw [h0] at e; cases e
    · rw [h0] at e
      have e1 : g' = S := by simpa [Value.ownBlock] using e
      subst e1
      rw [show W.heap[g']? = _ from h.sx] at hh
      simp only [Option.some.injEq, Obj.cells.injEq] at hh
      exact absurd hh.2.1 (by decide)
  have lt : ∀ k, vc.ownBlock = some k → w.heap.size ≤ k := fun k hk => (World.ownsRow.lt h.oc k hk).1
  have keep : ∀ b, b < w.heap.size → W'.heap[b]? = W.heap[b]? := fun b hb => hg.block b (Nat.lt_of_lt_of_le hb h.sz) (fun e => by have := lt b e.symm; omega)
  exact ⟨h.bel.grown hg h.bel.size (fun k hk => Nat.le_trans h.ge.2.2.2.2.2 (lt k hk)), (hg.block S h.sx.lt (fun e => ns e.symm)).trans h.sx, (keep gO h.ge.2.2.2.1).trans h.ro, (keep gU h.ge.2.2.2.2.1).trans h.ru, ho, fun b h1 h2 h3 => (keep b h1).trans (h.kp b h1 h2 h3), Nat.le_trans h.sz hg.size, h.ge⟩
theorem TH.nes (h : TH w0 w W S gO gU m of un vc code) : gO ≠ S ∧ gU ≠ S := ⟨h.ro.ne_cells h.sx (by decide), h.ru.ne_cells h.sx (by decide)⟩
theorem TH.own_set (h : TH w0 w W S gO gU m of un vc code) {g : Nat} (hg : g < w.heap.size) (t : Nat) (x : Value) : OwnC (W.setCell ⟨g, t, none⟩ x) w.heap.size vc code := by
  refine ⟨h.oc.1, ?_⟩
  rcases h.oc.2 with h0 | ⟨g', cap, cur, h0, h1, hh, r⟩
  · exact .inl h0
  · exact .inr ⟨g', cap, cur, h0, h1, (Below.heap_setCell W ⟨g, t, none⟩ x g' (by show g' ≠ g; omega)).trans hh, r⟩
theorem TH.setO (h : TH w0 w W S gO gU m of un vc code) (t : Nat) (x : Int) : TH w0 w (W.setCell ⟨gO, t, none⟩ (.int .i64 x)) S gO gU m (of.set t x) un vc code :=
  ⟨h.bel.setCell (p := ⟨gO, t, none⟩) h.ge.1 _, (Below.heap_setCell W ⟨gO, t, none⟩ _ S (Ne.symm h.nes.1)).trans h.sx, h.ro.set t x, h.ru.other h.ge.2.2.1 _, h.own_set h.ge.2.2.2.1 t _, fun b h1 h2 h3 => (Below.heap_setCell W ⟨gO, t, none⟩ _ b h2).trans (h.kp b h1 h2 h3), by have := h.sz; simpa [World.setCell] using this, h.ge⟩
theorem TH.setU (h : TH w0 w W S gO gU m of un vc code) (t : Nat) (x : Int) : TH w0 w (W.setCell ⟨gU, t, none⟩ (.int .i64 x)) S gO gU m of (un.set t x) vc code :=
  ⟨h.bel.setCell (p := ⟨gU, t, none⟩) h.ge.2.1 _, (Below.heap_setCell W ⟨gU, t, none⟩ _ S (Ne.symm h.nes.2)).trans h.sx, h.ro.other (Ne.symm h.ge.2.2.1) _, h.ru.set t x, h.own_set h.ge.2.2.2.2.1 t _, fun b h1 h2 h3 => (Below.heap_setCell W ⟨gU, t, none⟩ _ b h3).trans (h.kp b h1 h2 h3), by have := h.sz; simpa [World.setCell] using this, h.ge⟩
end
set_option maxRecDepth 100000 in
set_option maxHeartbeats 16000000 in
theorem through_any (p : Pg) (hr : rightB p = true) (w0 w : World) (S gO gU gf gs : Nat) (cv : Value) (hC : CodeAt w0 cv p.code) (hb0 : Below w0.heap.size w0 w)
    (hS : Box2 w S 98 (.slice (some ⟨gO, 0, none⟩) p.regs.toNat p.regs.toNat) (.slice (some ⟨gU, 0, none⟩) p.regs.toNat p.regs.toNat)) (hO : IArr w gO (ps0 p).of) (hU : IArr w gU (ps0 p).un) (hG : IArr w gs (setL p))
    (hge : w0.heap.size ≤ gO ∧ w0.heap.size ≤ gU ∧ gO ≠ gU) (hne : gs ≠ gO ∧ gs ≠ gU) (lf : Nat) :
    Calls Try.prog 32 #[.pointer (some ⟨S, 0, none⟩), cv, .agg #[.slice (some ⟨gf, 0, none⟩) lf lf, .slice (some ⟨gs, 0, none⟩) p.code.length p.code.length]] w
      fun e w' => ∃ v, e = .returned v ∧ TH w0 w w' S gO gU p.regs.toNat (psAt p p.code.length).of (psAt p p.code.length).un v (psAt p p.code.length).code := by
  have KC := hide hC
  have LN := hide (right_parts hr).2.2.2.1
  have MB := hide (right_parts hr).2.2.2.2.2.2.2
  have HRR := hide hr
  obtain ⟨ca, cc, rfl, _, _, _⟩ := hC
  have WL := hide (And.intro hO.lt (And.intro hU.lt hb0.size))
  obtain ⟨m, hm⟩ : ∃ m, m = p.regs.toNat := ⟨_, rfl⟩
  rw [← hm] at hS ⊢
  have HM := hide hm
  clear hm
  go_enter Try.func32, Try.ntmps32
  go_upto_region 1 with fail
  have b1 := below_alloc w (.cells #[.slice (some ⟨gf, 0, none⟩) lf lf, .slice (some ⟨gs, 0, none⟩) p.code.length p.code.length] 67)
  have LX := hide (Box2.new w 67 (.slice (some ⟨gf, 0, none⟩) lf lf) (.slice (some ⟨gs, 0, none⟩) p.code.length p.code.length))
  obtain ⟨w1, hw1⟩ : ∃ w1, w1 = w.alloc (.cells #[.slice (some ⟨gf, 0, none⟩) lf lf, .slice (some ⟨gs, 0, none⟩) p.code.length p.code.length] 67) := ⟨_, rfl⟩
  rw [← hw1] at b1 LX ⊢
  have GX := hide (hG.step b1)
  have WW := hide b1
  have WL0 := hide (And.intro hG.lt (show w.heap.size < w1.heap.size by rw [hw1, World.size_alloc]; omega))
  have N0 : Hid (TH w0 w1 w1 S gO gU m (psAt p 0).of (psAt p 0).un (.slice none 0 0) (psAt p 0).code) := hide ⟨hb0.trans (b1.mono hb0.size), hS.step b1, hO.step b1, hU.step b1, World.ownsRow_nil _ _ _ _, fun _ _ _ _ => rfl, Nat.le_refl _, ⟨hge.1, hge.2.1, hge.2.2, Nat.lt_of_lt_of_le WL.out.1 b1.size, Nat.lt_of_lt_of_le WL.out.2.1 b1.size, Nat.le_trans WL.out.2.2 b1.size⟩⟩
  have NE := hide hne
  have GE := hide hge
  clear hw1 b1 hb0 hS hO hU hG hge hne
  obtain ⟨Lb, hL⟩ : ∃ Lb, Lb = w.heap.size := ⟨_, rfl⟩
  rw [← hL] at LX ⊢
  have ZL := hide hL
  clear hL
  go_wp2
  go_step3
  go_wp2
  try (go_step3; go_wp2)
  go_loopw [7, 8, 9, 10, 11, 12, 15] (fun vv _ _ _ _ _ kv wr => ∃ (k : Nat) (vc : Value), k ≤ p.code.length ∧ kv = .int .i64 k ∧ vv = vc ∧ TH w0 w1 wr S gO gU m (psAt p k).of (psAt p k).un vc (psAt p k).code) (fun _ _ _ _ _ _ kv _ => p.code.length - (intOf kv).toNat)
  case atStart => exact ⟨0, _, Nat.zero_le _, rfl, rfl, N0.out⟩
  case round =>
    clear N0
    obtain ⟨k, vc, hk, rfl, rfl, hN⟩ := hrel
    have NN := hide hN
    clear hN
    obtain ⟨wl, hwl⟩ : ∃ wl, wl = wr := ⟨_, rfl⟩
    subst hwl
    have hln := LN.out
    obtain ⟨va, vcap, hva⟩ := own_slice NN.out.oc
    obtain ⟨cn, hcn⟩ : ∃ cn, cn = (psAt p k).code.length := ⟨_, rfl⟩
    rw [← hcn] at hva
    subst hva
    have CNL : Hid (cn ≤ k) := hide (by rw [hcn]; exact mN_le p k)
    have CNE := hide hcn
    clear hcn
    by_cases hlt : k < p.code.length
    · obtain ⟨b1, o1, rfl, hic⟩ := CodeAt.at (KC.out.below NN.out.bel) hlt
      have MI := hide (MB.out k hlt)
      have TT := hide (to_toNat HRR.out hlt)
      have PI := hide (psAt_inv HRR.out k hk)
      have ES : ot (setL p) k = setA p k := by unfold setL; rw [ot_map_range hlt]
      have EI := hide (show setA p k = -1 → psAt p (k + 1) = psAt p k from psAt_idle)
      have EN := hide (show setA p k ≠ -1 → _ from psAt_need (p := p) (k := k))
      have SE := hide (fun hn => PI.out.seat HRR.out hlt hn)
      have SB := hide (setA_bound hlt)
      have AK := hide (fun (a : Int) (ha : a ∈ asksL (cd p.code k)) => ask_toNat HRR.out hlt ha)
      generalize hi : cd p.code k = i at *
      clear hi
      obtain ⟨op, tq', a, b, c⟩ := i
      obtain ⟨tq, rfl⟩ := Int.eq_ofNat_of_zero_le (may_parts MI.out).1
      have i0 := hic.cell0
      have i1 := hic.cell1
      have i2 := hic.cell2
      have i3 := hic.cell3
      have i4 := hic.cell4
      dsimp only at i0 i1 i2 i3 i4
      clear hic
      go_upto_region 5 with fail
      have al := below_alloc wl (.cells #[.int .i64 op, .int .i64 (tq : Int), .int .i64 a, .int .i64 b, .int .i64 c] 40)
      have IX : Hid (Box5 (wl.alloc (.cells #[.int .i64 op, .int .i64 (tq : Int), .int .i64 a, .int .i64 b, .int .i64 c] 40)) wl.heap.size 40 ⟨op, tq, a, b, c⟩) := hide (Box5.new wl 40 ⟨op, tq, a, b, c⟩)
      have GI : Hid (w1.heap.size ≤ wl.heap.size) := hide NN.out.sz
      have NXO := hide (fun kb hkb => Nat.ne_of_lt (World.ownsRow.lt NN.out.oc kb hkb).2)
      replace NN := hide (NN.out.step al)
      clear al i0 i1 i2 i3 i4
      generalize wl.alloc (.cells #[.int .i64 op, .int .i64 (tq : Int), .int .i64 a, .int .i64 b, .int .i64 c] 40) = w4 at *
      generalize wl.heap.size = Xb at *
      have LX2 : Hid (Box2 w4 Lb 67 (.slice (some ⟨gf, 0, none⟩) lf lf) (.slice (some ⟨gs, 0, none⟩) p.code.length p.code.length)) := hide ((NN.out.kp Lb (by have h1 := WL0.out.2; have h2 := ZL.out; omega) (fun e => by have h1 := WL.out.1; have h2 := ZL.out; omega) (fun e => by have h1 := WL.out.2.1; have h2 := ZL.out; omega)).trans LX.out)
      have GX2 : Hid (IArr w4 gs (setL p)) := hide ((NN.out.kp gs GX.out.lt NE.out.1 NE.out.2).trans GX.out)
      have cL1 := LX2.out.cell1
      have kl : k < (setL p).length := by simp [setL]; exact hlt
      have cg := GX2.out.cell kl
      rw [ES] at cg
      obtain ⟨u, hu⟩ : ∃ u, u = setA p k := ⟨_, rfl⟩
      rw [← hu] at cg EI EN SE SB
      have ES2 : Hid (ot (setL p) k = u) := hide (by rw [ES, hu])
      clear hu ES
      by_cases hn : u = -1
      · have e1 := EI.out hn
        subst hn
        clear LX2 GX2
        go_wp2
        go_roundw
        case rel => exact ⟨k + 1, _, by omega, by go_num, rfl, by rw [e1]; exact NN.out⟩
        case measure => simp [intOf]; omega
      · have e1 := EN.out hn
        have hse := SE.out hn
        have hn' : (u == -1) = false := by simpa using hn
        have LX3 := LX2
        have GX3 := GX2
        clear hn' EI EN SE LX2 GX2 cL1 cg
        have y0 := IX.out.cells.cell0
        have y1 := IX.out.cells.cell1
        have y2 := IX.out.cells.cell2
        have y3 := IX.out.cells.cell3
        have y4 := IX.out.cells.cell4
        simp only [Nat.zero_add] at y1 y2 y3 y4
        have hn' : (u == -1) = false := by simpa using hn
        have cL1 := LX3.out.cell1
        have cg := GX3.out.cell kl
        rw [ES2.out] at cg
        obtain ⟨t, ht⟩ : ∃ t, t = seatOf (psAt p k).un k := ⟨_, rfl⟩
        rw [← ht] at e1 hse
        clear ht
        have HSE := hide hse
        have E1 := hide e1
        have HNU := hide hn
        clear hse e1
        go_wp2_with fail
        refine (asks_arr ⟨op, tq, a, b, c⟩ _ (by have := may_parts MI.out; dsimp only at this ⊢; omega)).mono ?_
        rintro e w5 ⟨⟨g1, rfl, hg1, ha1⟩, hb⟩
        have A1 := hide ha1
        replace NN := hide (NN.out.step hb)
        replace IX := hide (IX.out.step hb)
        have WX := hide hb.size
        clear ha1 hg1 hb y0 y1 y2 y3 y4 cL1 cg hn' hn
        obtain ⟨al, hal⟩ : ∃ al, al = asksL ⟨op, tq, a, b, c⟩ := ⟨_, rfl⟩
        rw [← hal] at A1 AK ⊢
        have HAL := hide hal
        have AL2 : Hid (al.length ≤ 2) := hide (by rw [hal]; exact asks_two _)
        clear hal
        have cS0 := NN.out.sx.cell0
        go_wp2_with fail
        refine (given_any S gO gU m (psAt p k).of al _ _ NN.out.sx NN.out.ro (by rw [PI.out.lo, HM.out]) (A1.out.ints (by have := AL2.out; omega)) (by have := AL2.out; omega) (fun j hj => by have h := AK.out (ot al j) (ot_mem hj); have h2 := HM.out; omega)).mono ?_
        rintro e w6 ⟨gA, rfl, hgA, hA, hb⟩
        have AA := hide hA
        replace NN := hide (NN.out.step hb)
        replace IX := hide (IX.out.step hb)
        clear hA hgA hb cS0 A1
        have cS1 := NN.out.sx.cell1
        go_wp2
        clear cS1
        go_loopw [7, 11, 12, 35] (fun vv _ _ kv wr => ∃ j : Nat, j ≤ t ∧ vv = .slice va cn vcap ∧ kv = .int .i64 j ∧ Below w6.heap.size w6 wr) (fun _ _ _ kv _ => t + 1 - (intOf kv).toNat)
        case atStart => exact ⟨0, Nat.zero_le _, rfl, rfl, Below.refl _ _⟩
        case round =>
          obtain ⟨j, hj, rfl, rfl, hb⟩ := hrel
          have WB7 := hide hb
          replace NN := hide (NN.out.step hb)
          replace IX := hide (IX.out.step hb)
          replace AA := hide (AA.out.step hb)
          clear hb
          obtain ⟨w7, hw7⟩ : ∃ w7, w7 = wr := ⟨_, rfl⟩
          subst hw7
          have tm : t < m := by have := HSE.out.1; have := HM.out; omega
          have jm : j < m := by omega
          have j128 : j ≤ 128 := by have h1 := (right_parts HRR.out).2.2.1; have h2 := HM.out; omega
          have jl : j < (psAt p k).un.length := by rw [PI.out.lu, ← HM.out]; exact jm
          have cu := NN.out.ru.cell jl
          by_cases hjt : j < t
          · have h3 := HSE.out.2.2 j hjt
            have hg3 : ¬ ot (psAt p k).un j ≤ (k : Int) := by omega
            go_wp2
            go_roundw
            case rel => exact ⟨j + 1, by omega, rfl, by go_num, WB7.out⟩
            case measure => simp [intOf]; omega
          · have e : j = t := by omega
            subst e
            have h3 := HSE.out.2.1
            have y0 := IX.out.cells.cell0
            have y1 := IX.out.cells.cell1
            have y2 := IX.out.cells.cell2
            have y3 := IX.out.cells.cell3
            have y4 := IX.out.cells.cell4
            simp only [Nat.zero_add] at y1 y2 y3 y4
            have MV := hide (fun w hA => moved_any ⟨op, tq, a, b, c⟩ p.regs j (psAt p k).of gA w MI.out hA)
            rw [← HAL.out] at MV
            obtain ⟨xa, hxa⟩ : ∃ xa, xa = (mvd ⟨op, tq, a, b, c⟩ j (psAt p k).of).a := ⟨_, rfl⟩
            obtain ⟨xb, hxb⟩ : ∃ xb, xb = (mvd ⟨op, tq, a, b, c⟩ j (psAt p k).of).b := ⟨_, rfl⟩
            have HX : Hid (mvd ⟨op, tq, a, b, c⟩ j (psAt p k).of = ⟨op, j, xa, xb, c⟩) := hide (by rw [hxa, hxb]; rfl)
            rw [← hxa, ← hxb] at MV
            clear hxa hxb
            go_wp2_with fail
            refine (MV.out _ AA.out).mono ?_
            rintro e w8 ⟨rfl, hb⟩
            replace NN := hide (NN.out.step hb)
            replace IX := hide (IX.out.step hb)
            clear hb y0 y1 y2 y3 y4 cu MV AA
            have CC : Hid (CodeAt (w8.alloc (.cells #[.int .i64 op, .int .i64 (j : Int), .int .i64 xa, .int .i64 xb, .int .i64 c] 40)) (.slice (some ⟨w8.heap.size, 0, none⟩) 1 1) [⟨op, j, xa, xb, c⟩]) := hide (code1 w8 ⟨op, j, xa, xb, c⟩ rfl)
            have NA := hide (NN.out.step (below_alloc w8 (.cells #[.int .i64 op, .int .i64 (j : Int), .int .i64 xa, .int .i64 xb, .int .i64 c] 40)))
            have IA := hide (IX.out.step (below_alloc w8 (.cells #[.int .i64 op, .int .i64 (j : Int), .int .i64 xa, .int .i64 xb, .int .i64 c] 40)))
            go_wp2_with (at_builtin; refine app_code rfl (.tmp 43) (.tmp 48) rfl w1.heap.size _ (psAt p k).code rfl NA.out.oc (.slice (some ⟨w8.heap.size, 0, none⟩) 1 1) [⟨op, j, xa, xb, c⟩] rfl CC.out (by have h1 := CNL.out; have h2 := CNE.out; simp only [List.length_singleton]; omega) NA.out.sz ?_)
            intro v' w9 hown hgrow
            have N9 := hide (NA.out.app hgrow hown)
            have I9 := hide ((hgrow.block Xb IA.out.lt (fun e => NXO.out Xb e.symm rfl)).trans IA.out)
            obtain ⟨vb, vcb, hvb⟩ := own_slice hown
            rw [List.length_append, List.length_singleton, ← CNE.out] at hvb
            subst hvb
            clear hown hgrow CC NA IA NN IX
            have LX2 : Hid (Box2 w9 Lb 67 (.slice (some ⟨gf, 0, none⟩) lf lf) (.slice (some ⟨gs, 0, none⟩) p.code.length p.code.length)) := hide ((N9.out.kp Lb (by have h1 := WL0.out.2; have h2 := ZL.out; omega) (fun e => by have h1 := WL.out.1; have h2 := ZL.out; omega) (fun e => by have h1 := WL.out.2.1; have h2 := ZL.out; omega)).trans LX.out)
            have GX2 : Hid (IArr w9 gs (setL p)) := hide ((N9.out.kp gs GX.out.lt NE.out.1 NE.out.2).trans GX.out)
            go_upto_region 12 with fail
            have cS0 := N9.out.sx.cell0
            have cS1 := N9.out.sx.cell1
            have y1 := (show Box5 w9 Xb 40 ⟨op, tq, a, b, c⟩ from I9.out).cells.cell1
            simp only [Nat.zero_add] at y1
            have cL1 := LX2.out.cell1
            have cg := GX2.out.cell kl
            rw [ES2.out] at cg
            have ql : tq < (psAt p k).of.length := by rw [PI.out.lo]; have := TT.out.2; exact this
            have qm : tq < m := by rw [HM.out, ← PI.out.lo]; exact ql
            have co := N9.out.ro.cell ql
            have fo := N9.out.ro.free tq
            have cu := N9.out.ru.cell jl
            have fu := N9.out.ru.free j
            have hgne : gO ≠ gU := N9.out.ge.2.2.1
            go_region
            have N10 := hide ((N9.out.setO tq j).setU j u).drew
            obtain ⟨w10, hw10⟩ : ∃ w10, w10 = ((w9.setCell ⟨gO, tq, none⟩ (.int .i64 (j : Int))).setCell ⟨gU, j, none⟩ (.int .i64 u)).drew := ⟨_, rfl⟩
            rw [← hw10] at N10 ⊢
            clear hw10 cS0 cS1 y1 cL1 cg co fo cu fu
            go_wp2
            go_roundw
            case rel => exact ⟨k + 1, _, by omega, by go_num, rfl, by rw [E1.out, HX.out]; exact N10.out⟩
            case measure => simp [intOf]; omega
    · have e : k = p.code.length := by omega
      subst e
      go_wp2
      try rw [Exit.noGoto_ret]
      go_ret
      exact ⟨_, rfl, NN.out.bel, NN.out.sx, NN.out.ro, NN.out.ru, own_base NN.out.oc WW.out.size, fun b h1 h2 h3 => (NN.out.kp b (Nat.lt_of_lt_of_le h1 WW.out.size) h2 h3).trans (WW.out.block b h1), Nat.le_trans WW.out.size NN.out.sz, GE.out.1, GE.out.2.1, GE.out.2.2, WL.out.1, WL.out.2.1, WL.out.2.2⟩
end Go.Proofs.Ytheakienigmkhaa
