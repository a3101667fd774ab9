/- the document's Pass, of a program that may be. -/
import Derived.Test.YtlghhpgnhppoeaaDoorFoRm
import Derived.Test.YtlghhpgnhppoeaaDoorFoFd
import Derived.Test.YtlghhpgnhppoeaaDoorFoPa
namespace Go.Proofs.YtlghhpgnhppoeaaDoor
open Go.RowKit

structure RS (w0 : World) (B R K : Nat) (p : Pg) (pc po vc vo : Value) (S : List Ins) (w : World) : Prop where
  bel : Below w0.heap.size w0 w
  px : Box4 w B 36 (.int .i64 p.ins) (.int .i64 p.regs) pc po
  rx : Box4 w R 36 (.int .i64 0) (.int .i64 0) (.slice none 0 0) (.slice none 0 0)
  kx : Box4 w K 36 (.int .i64 p.ins) (.int .i64 p.regs) vc vo
  oc : OwnC w w0.heap.size vc S.reverse
  oo : OwnO w w0.heap.size vo p.outs
  may : ∀ i ∈ S, mayB i 128 = true
  ne : B ≠ K ∧ R ≠ K ∧ w0.heap.size ≤ K ∧ w0.heap.size ≤ R
section
variable {w0 w w' : World} {B R K C : Nat} {p : Pg} {pc po vc vo : Value} {S : List Ins} {a b x : Ins}
theorem RS.step (h : RS w0 B R K p pc po vc vo S w) (hb : Below w.heap.size w w') : RS w0 B R K p pc po vc vo S w' :=
  ⟨h.bel.trans (hb.mono h.bel.size), h.px.step hb, h.rx.step hb, h.kx.step hb, own_below h.oc hb, own_below h.oo hb, h.may, h.ne⟩
theorem RS.app {v' : Value} (h : RS w0 B R K p pc po vc vo S w) (hg : w.grownBy w' vc.ownBlock) (ho : OwnC w' w0.heap.size v' (b :: S).reverse) (hb : mayB b 128 = true) :
    RS w0 B R K p pc po v' vo (b :: S) (w'.setCell ⟨K, 2, none⟩ v') := by
  have n1 := box_row_ne h.px h.oc (by decide)
  have n3 := box_row_ne h.rx h.oc (by decide)
  have n4 := box_row_ne h.kx h.oc (by decide)
  have kx' := h.kx.grow hg n4
  refine ⟨?_, (h.px.grow hg n1).set_ne (fun e => h.ne.1 e.symm) _, (h.rx.grow hg n3).set_ne (fun e => h.ne.2.1 e.symm) _, kx'.set2 _, ?_, ?_, ?_, h.ne⟩
  · exact (h.bel.grown hg h.bel.size (fun k hk => (World.ownsRow.lt h.oc k hk).1)).setCell (p := ⟨K, 2, none⟩) h.ne.2.2.1 _
  · exact own_set_ne ho (box_row_ne kx' ho (by decide)) _
  · have oo' := World.ownsRow.kept h.oo hg (rows_ne h.oo h.oc (by decide))
    exact own_set_ne oo' (box_row_ne kx' oo' (by decide)) _
  · intro i hi
    rcases List.mem_cons.1 hi with rfl | hi
    · exact hb
    · exact h.may i hi
theorem RS.cut {ad : Option Addr} {cap : Nat} (h : RS w0 B R K p pc po (.slice ad (a :: S).length cap) vo (a :: S) w) :
    RS w0 B R K p pc po (.slice ad S.length cap) vo S (w.setCell ⟨K, 2, none⟩ (.slice ad S.length cap)) := by
  obtain ⟨g, rfl, ho⟩ := own_trunc h.oc
  exact ⟨h.bel.setCell (p := ⟨K, 2, none⟩) h.ne.2.2.1 _, h.px.set_ne (fun e => h.ne.1 e.symm) _, h.rx.set_ne (fun e => h.ne.2.1 e.symm) _, h.kx.set2 _, own_set_ne ho (box_row_ne h.kx ho (by decide)) _, own_set_ne h.oo (box_row_ne h.kx h.oo (by decide)) _, fun i hi => h.may i (by simp [hi]), h.ne⟩
theorem RS.set (h : RS w0 B R K p pc po vc vo S w) (c1 : C ≠ B ∧ C ≠ R ∧ C ≠ K ∧ w0.heap.size ≤ C) (c2 : vc.ownBlock ≠ some C) (c3 : vo.ownBlock ≠ some C) (n : Nat) (z : Value) : RS w0 B R K p pc po vc vo S (w.setCell ⟨C, n, none⟩ z) :=
  ⟨h.bel.setCell (p := ⟨C, n, none⟩) c1.2.2.2 _, h.px.set_ne c1.1 _, h.rx.set_ne c1.2.1 _, h.kx.set_ne c1.2.2.1 _, own_set_ne h.oc c2 _, own_set_ne h.oo c3 _, h.may, h.ne⟩
structure RI (w0 : World) (B R K : Nat) (p : Pg) (pc po vc vo : Value) (S : List Ins) (C : Nat) (b : Ins) (w : World) : Prop where
  rs : RS w0 B R K p pc po vc vo S w
  box : Box5 w C 24 b
  mb : mayB b 128 = true
  l1 : C ≠ B ∧ C ≠ R ∧ C ≠ K ∧ w0.heap.size ≤ C
  l2 : vc.ownBlock ≠ some C
  l3 : vo.ownBlock ≠ some C
theorem RI.step (h : RI w0 B R K p pc po vc vo S C b w) (hb : Below w.heap.size w w') : RI w0 B R K p pc po vc vo S C b w' := ⟨h.rs.step hb, h.box.step hb, h.mb, h.l1, h.l2, h.l3⟩
theorem RI.cut {ad : Option Addr} {cap : Nat} (h : RI w0 B R K p pc po (.slice ad (a :: S).length cap) vo (a :: S) C b w) :
    RI w0 B R K p pc po (.slice ad S.length cap) vo S C b (w.setCell ⟨K, 2, none⟩ (.slice ad S.length cap)) := by
  have h2 : (Value.slice ad S.length cap).ownBlock ≠ some C := by
    have := h.l2
    cases ad with
    | none => simp [Value.ownBlock]
    | some q => simpa [Value.ownBlock] using this
  exact ⟨h.rs.cut, h.box.set_ne (fun e => h.l1.2.2.1 e.symm) _, h.mb, h.l1, h2, h.l3⟩
theorem RI.put (h : RI w0 B R K p pc po vc vo S C b w) (hx : mayB x 128 = true) :
    RI w0 B R K p pc po vc vo S C x (((((w.setCell ⟨C, 0, none⟩ (.int .i64 x.op)).setCell ⟨C, 1, none⟩ (.int .i64 x.to)).setCell ⟨C, 2, none⟩ (.int .i64 x.a)).setCell ⟨C, 3, none⟩ (.int .i64 x.b)).setCell ⟨C, 4, none⟩ (.int .i64 x.c)) :=
  ⟨(((((h.rs.set h.l1 h.l2 h.l3 0 _).set h.l1 h.l2 h.l3 1 _).set h.l1 h.l2 h.l3 2 _).set h.l1 h.l2 h.l3 3 _).set h.l1 h.l2 h.l3 4 _), h.box.put x, hx, h.l1, h.l2, h.l3⟩
/-- a new box for the instruction -/
theorem RS.box (h : RS w0 B R K p pc po vc vo S w) (hb : mayB b 128 = true) : RI w0 B R K p pc po vc vo S w.heap.size b (w.alloc (.cells b.vals 24)) :=
  ⟨h.step (below_alloc _ _), Box5.new w 24 b, hb, ⟨Nat.ne_of_gt h.px.lt, Nat.ne_of_gt h.rx.lt, Nat.ne_of_gt h.kx.lt, h.bel.size⟩, fun e => Nat.lt_irrefl _ (World.ownsRow.lt h.oc _ e).2, fun e => Nat.lt_irrefl _ (World.ownsRow.lt h.oo _ e).2⟩
end
theorem last_ins {w : World} {base cap : Nat} {ad : Option Addr} {a : Ins} {S : List Ins} (ho : OwnC w base (.slice ad (a :: S).length cap) (a :: S).reverse) : ∃ g, ad = some ⟨g, 0, none⟩ ∧ S.length < cap ∧ cap ≤ 9223372036854775807 ∧ InsC w g (0 + S.length * 5) a := by
  obtain ⟨g, rfl, _⟩ := own_trunc ho
  have h0 := ho.2
  obtain ⟨a', c', he, h1, h2, hne⟩ := OwnC.at ho
  obtain ⟨b, off, he2, hc⟩ := hne (by simp)
  simp only [Value.slice.injEq] at he
  rw [← he.1] at he2
  simp only [Option.some.injEq, Addr.mk.injEq] at he2
  obtain ⟨rfl, rfl, _⟩ := he2
  have h3 := hc S.length (by simp)
  have e : cd (a :: S).reverse S.length = a := by rw [cd_lt (by simp)]; simp
  rw [e] at h3
  rw [List.length_reverse, List.length_cons] at h1
  unfold maxLen at h2
  exact ⟨g, rfl, by omega, by omega, h3⟩
set_option maxRecDepth 100000 in
set_option maxHeartbeats 16000000 in
theorem rpass_any (v : Value) (p : Pg) (w : World) (h : PgAt w v p) (hr : rightB p = true) (hl : p.code.length ≤ 400) :
    Calls Tryd.prog 14 #[v] w fun e w' => CopyR w w' e (pasP p) ∧ Below w.heap.size w w' := by
  have HP := hide h
  obtain ⟨p1, p2, p3, p4, p5, p6, p7, p8⟩ := right_parts hr
  have HM : Hid (∀ k, k < p.code.length → mayB (cd p.code k) 128 = true) := hide (fun k hk => may_mono (p8 k hk) (by omega))
  have HL : Hid (p.code.length ≤ 400 ∧ p.outs.length ≤ 400) := hide (by omega)
  obtain ⟨ca, cc, oa, oc, rfl, hc, ho⟩ := h
  have KC := hide hc
  clear hc ho p1 p2 p3 p4 p5 p6 p7 p8 hr
  go_enter Tryd.func14, Tryd.ntmps14
  go_upto_region 1 with fail
  have b1 := below_alloc w (.cells #[.int .i64 p.ins, .int .i64 p.regs, .slice ca p.code.length cc, .slice oa p.outs.length oc] 36)
  have b2 := below_alloc (w.alloc (.cells #[.int .i64 p.ins, .int .i64 p.regs, .slice ca p.code.length cc, .slice oa p.outs.length oc] 36)) (.cells #[.int .i64 0, .int .i64 0, .slice none 0 0, .slice none 0 0] 36)
  have PX := hide ((Box4.new w 36 (.int .i64 p.ins) (.int .i64 p.regs) (.slice ca p.code.length cc) (.slice oa p.outs.length oc)).step b2)
  have RX := hide (Box4.new (w.alloc (.cells #[.int .i64 p.ins, .int .i64 p.regs, .slice ca p.code.length cc, .slice oa p.outs.length oc] 36)) 36 (.int .i64 0) (.int .i64 0) (.slice none 0 0) (.slice none 0 0))
  rw [World.size_alloc] at RX
  replace HP := hide ((HP.out.below b1).below b2)
  have HB := hide (b1.trans (b2.mono b1.size))
  clear b1 b2
  generalize ((w.alloc (.cells #[.int .i64 p.ins, .int .i64 p.regs, .slice ca p.code.length cc, .slice oa p.outs.length oc] 36)).alloc (.cells #[.int .i64 0, .int .i64 0, .slice none 0 0, .slice none 0 0] 36)) = w1 at *
  obtain ⟨B, hB⟩ : ∃ B, B = w.heap.size := ⟨_, rfl⟩
  have HZ := hide hB
  rw [← hB] at PX RX ⊢
  clear hB
  obtain ⟨R, hR⟩ : ∃ R, R = B + 1 := ⟨_, rfl⟩
  have HR := hide hR
  rw [← hR] at RX ⊢
  clear hR
  have c0 := PX.out.cell0
  have c1 := PX.out.cell1
  have c2 := PX.out.cell2
  have c3 := PX.out.cell3
  go_wp2_with fail
  refine (rcopy_any _ p _ HP.out HL.out).mono ?_
  rintro e w2 ⟨⟨v, rfl, vc, vo, rfl, hoc, hoo⟩, hb⟩
  obtain ⟨va, vcap, rfl⟩ := own_slice hoc
  obtain ⟨vb, vcb, rfl⟩ := own_slice hoo
  have OO := hide (own_base hoo HB.out.size)
  replace PX := hide (PX.out.step hb)
  replace RX := hide (RX.out.step hb)
  replace HB := hide (HB.out.trans (hb.mono HB.out.size))
  clear hb hoc hoo c0 c1 c2 c3
  go_upto_region 2 with fail
  have hb := below_alloc w2 (.cells #[.int .i64 p.ins, .int .i64 p.regs, .slice va p.code.length vcap, .slice vb p.outs.length vcb] 36)
  have KX := hide (Box4.new w2 36 (.int .i64 p.ins) (.int .i64 p.regs) (.slice va p.code.length vcap) (.slice vb p.outs.length vcb))
  have KB : Hid (B ≠ w2.heap.size ∧ R ≠ w2.heap.size ∧ w.heap.size ≤ w2.heap.size ∧ w.heap.size ≤ R) := hide ⟨Nat.ne_of_lt PX.out.lt, Nat.ne_of_lt RX.out.lt, HB.out.size, by have := HR.out; have := HZ.out; omega⟩
  replace PX := hide (PX.out.step hb)
  replace RX := hide (RX.out.step hb)
  replace OO := hide (own_below OO.out hb)
  replace HB := hide (HB.out.trans (hb.mono HB.out.size))
  clear hb
  generalize w2.alloc (.cells #[.int .i64 p.ins, .int .i64 p.regs, .slice va p.code.length vcap, .slice vb p.outs.length vcb] 36) = w3 at *
  generalize w2.heap.size = K at *
  have c0 := KX.out.cell0
  have c1 := KX.out.cell1
  have c2 := KX.out.cell2
  have c3 := KX.out.cell3
  have f2 := KX.out.free 2
  go_upto_region 3 with fail
  clear c0 c1 c2 c3 f2
  have N0 : Hid (RS w B R K p (.slice ca p.code.length cc) (.slice oa p.outs.length oc) (.slice none ([] : List Ins).length 0) (.slice vb p.outs.length vcb) [] (w3.setCell ⟨K, 2, none⟩ (.slice none 0 0))) := hide ⟨HB.out.setCell (p := ⟨K, 2, none⟩) KB.out.2.2.1 _, PX.out.set_ne (fun e => KB.out.1 e.symm) _, RX.out.set_ne (fun e => KB.out.2.1 e.symm) _, KX.out.set2 _, ⟨rfl, .inl ⟨rfl, rfl⟩⟩, own_set_ne OO.out (box_row_ne KX.out OO.out (by decide)) _, by simp, KB.out⟩
  generalize w3.setCell ⟨K, 2, none⟩ (.slice none 0 0) = w4 at *
  clear PX RX KX OO HB KB
  go_wp2
  go_loopw [4, 5, 6, 7, 8] (fun kv _ _ _ _ wr => ∃ (k : Nat) (S : List Ins) (ad : Option Addr) (cap : Nat), k ≤ p.code.length ∧ kv = .int .i64 k ∧ S = runI (p.code.take k) ∧ RS w B R K p (.slice ca p.code.length cc) (.slice oa p.outs.length oc) (.slice ad S.length cap) (.slice vb p.outs.length vcb) S wr) (fun kv _ _ _ _ _ => p.code.length - (intOf kv).toNat)
  case atStart => exact ⟨0, [], _, _, Nat.zero_le _, rfl, rfl, N0.out⟩
  case round =>
    clear N0
    obtain ⟨k, S, ad, cap, hk, rfl, hS, hF⟩ := hrel
    have HF := hide hF
    have HS := hide hS
    have SL : S.length ≤ k := by rw [hS]; exact runI_length p.code k
    clear hF hS
    by_cases hlt : k < p.code.length
    · obtain ⟨b0, off, rfl, k1⟩ := (KC.out.below HF.out.bel).at hlt
      obtain ⟨x, hx⟩ : ∃ x, x = cd p.code k := ⟨_, rfl⟩
      rw [← hx] at k1
      have HX := hide hx
      have MX := hide (HM.out k hlt)
      rw [← hx] at MX
      clear hx
      have k10 := k1.cell0
      have k11 := k1.cell1
      have k12 := k1.cell2
      have k13 := k1.cell3
      have k14 := k1.cell4
      clear k1
      have c2 := HF.out.px.cell2
      go_wp2_with fail
      refine (rplain_any x _ MX.out).mono ?_
      rintro e w5 ⟨rfl, hb⟩
      replace HF := hide (HF.out.step hb)
      clear hb k10 k11 k12 k13 k14 c2
      have MY := hide (plI_may MX.out)
      obtain ⟨y, hy⟩ : ∃ y, y = plI x := ⟨_, rfl⟩
      rw [← hy] at MY ⊢
      have HY := hide hy
      clear hy MX
      go_upto_region 7 with fail
      have BI := hide (HF.out.box MY.out)
      clear HF
      unfold Ins.vals at BI
      try dsimp only at BI
      generalize w5.alloc (.cells #[.int .i64 y.op, .int .i64 y.to, .int .i64 y.a, .int .i64 y.b, .int .i64 y.c] 24) = w6 at *
      generalize w5.heap.size = C at *
      obtain ⟨T, hTT⟩ : ∃ T, T = pushI S y := ⟨_, rfl⟩
      have GT : Hid (runI (p.code.take (k + 1)) = T) := hide (by rw [runI_take p.code k hlt, ← HS.out, ← HX.out, ← HY.out, hTT])
      have PT := hide hTT.symm
      clear hTT HS HX HY MY
      go_loopw [6, 7, 8] (fun _ _ _ wr => ∃ (S' : List Ins) (ad' : Option Addr) (cap' : Nat) (b : Ins), S'.length ≤ k ∧ RI w B R K p (.slice (some ⟨b0, off, none⟩) p.code.length cc) (.slice oa p.outs.length oc) (.slice ad' S'.length cap') (.slice vb p.outs.length vcb) S' C b wr ∧ pushI S' b = T) (fun _ _ _ wr => slLen ((wr.cell? ⟨K, 2, none⟩).getD undef))
      case atStart => exact ⟨S, ad, cap, y, SL, BI.out, PT.out⟩
      case round =>
        clear BI PT SL
        obtain ⟨S', ad', cap', b, sl, hI, hP⟩ := hrel
        have HI := hide hI
        have HP2 := hide hP
        have CL0 := hide (hI.rs.kx.cell2)
        clear hI hP
        have k0 := HI.out.box.cells.cell0
        have k1 := HI.out.box.cells.cell1
        have k2 := HI.out.box.cells.cell2
        have k3 := HI.out.box.cells.cell3
        have k4 := HI.out.box.cells.cell4
        simp only [Nat.zero_add] at k1 k2 k3 k4
        go_wp2_with fail
        refine (rnothing_any b _).mono ?_
        rintro e w7 ⟨rfl, hb⟩
        replace HI := hide (HI.out.step hb)
        clear hb k0 k1 k2 k3 k4
        cases hn : noB b with
        | true =>
          have e := HP2.out
          rw [pushI_nothing _ _ hn] at e
          subst e
          go_wp2
          go_roundw
          case rel => exact ⟨k + 1, S', ad', cap', by omega, by go_num, GT.out.symm, HI.out.rs⟩
          case measure => simp [intOf]; omega
        | false =>
          have HN := hide hn
          clear hn
          cases S' with
          | nil =>
            have e := HP2.out
            rw [push_none (S := ([] : List Ins)) HN.out rfl] at e
            subst e
            have y2 := HI.out.rs.kx.cell2
            have k0 := HI.out.box.cells.cell0
            have k1 := HI.out.box.cells.cell1
            have k2 := HI.out.box.cells.cell2
            have k3 := HI.out.box.cells.cell3
            have k4 := HI.out.box.cells.cell4
            simp only [Nat.zero_add] at k1 k2 k3 k4
            have HA := hide (HI.out.step (below_alloc w7 (.cells #[.int .i64 b.op, .int .i64 b.to, .int .i64 b.a, .int .i64 b.b, .int .i64 b.c] 24)))
            have CC : Hid (CodeAt (w7.alloc (.cells #[.int .i64 b.op, .int .i64 b.to, .int .i64 b.a, .int .i64 b.b, .int .i64 b.c] 24)) (.slice (some ⟨w7.heap.size, 0, none⟩) 1 1) [b]) := hide (code1 w7 b rfl)
            go_wp2_with (at_builtin; refine app_code rfl _ _ rfl w.heap.size _ (([] : List Ins)).reverse rfl HA.out.rs.oc _ [b] rfl CC.out (by have := HL.out; first | (simp; done) | (simp; omega)) HA.out.rs.bel.size ?_)
            intro v' w8 hown hgrow
            have bx' := HA.out.rs.kx.grow hgrow (box_row_ne HA.out.rs.kx HA.out.rs.oc (by decide))
            have z2 := bx'.cell2
            have f2 := bx'.free 2
            have hown' : OwnC w8 w.heap.size v' (b :: ([] : List Ins)).reverse := by first | (rw [List.reverse_cons]; exact hown) | (have e5 : (b :: ([] : List Ins)).reverse = _ := List.reverse_cons; simp at e5; rw [show (b :: ([] : List Ins)).reverse = [b] by simp]; exact hown)
            have NN := hide (HA.out.rs.app hgrow (b := b) hown' HI.out.mb)
            obtain ⟨va', vcap', he⟩ := own_slice hown'
            rw [List.length_reverse] at he
            subst he
            clear hown hown' hgrow CC HA HI bx' y2 k0 k1 k2 k3 k4
            go_wp2
            go_roundw
            case rel => exact ⟨k + 1, b :: ([] : List Ins), va', vcap', by omega, by go_num, GT.out.symm, NN.out⟩
            case measure => simp [intOf]; omega
          | cons c S2 =>
            obtain ⟨g, rfl, hcap, hcm, hc⟩ := last_ins HI.out.rs.oc
            have IC := hide hc
            have MC := hide (HI.out.rs.may c (by simp))
            clear hc
            rw [List.length_cons] at sl
            have c2 := HI.out.rs.kx.cell2
            rw [List.length_cons] at c2
            go_upto_region 10 with fail
            clear c2
            have m2 : IntKind.i64.wrap (S2.length : Int) = S2.length := by rw [IntKind.wrap_i64]; omega
            have m3 : (S2.length : Int) < (S2.length : Int) + 1 := by omega
            have m4 : (S2.length : Int) ≤ (cap' : Int) := by omega
            have KL : Hid (K < w7.heap.size) := hide HI.out.rs.kx.lt
            have CL1 : Hid (C < w7.heap.size) := hide HI.out.box.lt
            cases hM : meI c b with
            | none =>
              have HM2 := hide hM
              refine wp_calm (fun w' => Below w7.heap.size w7 w') (fun _ => true) 14 #[false, false, false, false, false, false, false, false, false, false, false, false, false, false] (by kernel_rfl) rfl rfl ?_
              have HF := hide ((Below.refl w7.heap.size w7).drew)
              generalize w7.drew = w7d at *
              refine Calm.takeL 14 (i := 0) (v := ?_) (a' := ?_) (l' := #[true, false, false, false, false, false, false, false, false, false, false, false, false, false]) (d := some 33) (by kernel_rfl) rfl (by kernel_rfl) (by kernel_rfl) (by kernel_rfl) (by kernel_rfl) (fun _ _ _ h => h) HF.out rfl ?_ rfl rfl ?_ ?_
              rotate_left
              · intro w' hF; clear hF; go_simp; try rfl
              rotate_left
              · simp only [Act.put]; exact rfl
              refine Calm.takeL 14 (i := 1) (v := ?_) (a' := ?_) (l' := #[true, true, false, false, false, false, false, false, false, false, false, false, false, false]) (d := some 34) (by kernel_rfl) rfl (by kernel_rfl) (by kernel_rfl) (by kernel_rfl) (by kernel_rfl) (fun _ _ _ h => h) HF.out rfl ?_ rfl rfl ?_ ?_
              rotate_left
              · intro w' hF; have e0 := (HI.out.rs.kx.step hF).cell2; rw [List.length_cons] at e0; have g0 := (IC.out.step hF).cell0; have g1 := (IC.out.step hF).cell1; have g2 := (IC.out.step hF).cell2; have g3 := (IC.out.step hF).cell3; have g4 := (IC.out.step hF).cell4; simp only [Nat.zero_add] at g0 g1 g2 g3 g4; have h0 := (HI.out.box.step hF).cells.cell0; have h1 := (HI.out.box.step hF).cells.cell1; have h2 := (HI.out.box.step hF).cells.cell2; have h3 := (HI.out.box.step hF).cells.cell3; have h4 := (HI.out.box.step hF).cells.cell4; simp only [Nat.zero_add] at h1 h2 h3 h4; clear hF; go_simp; try rfl
              rotate_left
              · simp only [Act.put]; exact rfl
              refine Calm.takeL 14 (i := 2) (v := ?_) (a' := ?_) (l' := #[true, true, true, false, false, false, false, false, false, false, false, false, false, false]) (d := some 35) (by kernel_rfl) rfl (by kernel_rfl) (by kernel_rfl) (by kernel_rfl) (by kernel_rfl) (fun _ _ _ h => h) HF.out rfl ?_ rfl rfl ?_ ?_
              rotate_left
              · intro w' hF; clear hF; go_simp; try rfl
              rotate_left
              · simp only [Act.put]; exact rfl
              refine Calm.takeL 14 (i := 3) (v := ?_) (a' := ?_) (l' := #[true, true, true, true, false, false, false, false, false, false, false, false, false, false]) (d := some 36) (by kernel_rfl) rfl (by kernel_rfl) (by kernel_rfl) (by kernel_rfl) (by kernel_rfl) (fun _ _ _ h => h) HF.out rfl ?_ rfl rfl ?_ ?_
              rotate_left
              · intro w' hF; clear hF; go_simp; try rfl
              rotate_left
              · simp only [Act.put]; exact rfl
              refine Calm.takeL 14 (i := 4) (v := ?_) (a' := ?_) (l' := #[true, true, true, true, true, false, false, false, false, false, false, false, false, false]) (d := some 37) (by kernel_rfl) rfl (by kernel_rfl) (by kernel_rfl) (by kernel_rfl) (by kernel_rfl) (fun _ _ _ h => h) HF.out rfl ?_ rfl rfl ?_ ?_
              rotate_left
              · intro w' hF; clear hF; go_simp; try rfl
              rotate_left
              · simp only [Act.put]; exact rfl
              refine Calm.takeL 14 (i := 5) (v := ?_) (a' := ?_) (l' := #[true, true, true, true, true, true, false, false, false, false, false, false, false, false]) (d := some 38) (by kernel_rfl) rfl (by kernel_rfl) (by kernel_rfl) (by kernel_rfl) (by kernel_rfl) (fun _ _ _ h => h) HF.out rfl ?_ rfl rfl ?_ ?_
              rotate_left
              · intro w' hF; have e0 := (HI.out.rs.kx.step hF).cell2; rw [List.length_cons] at e0; have g0 := (IC.out.step hF).cell0; have g1 := (IC.out.step hF).cell1; have g2 := (IC.out.step hF).cell2; have g3 := (IC.out.step hF).cell3; have g4 := (IC.out.step hF).cell4; simp only [Nat.zero_add] at g0 g1 g2 g3 g4; have h0 := (HI.out.box.step hF).cells.cell0; have h1 := (HI.out.box.step hF).cells.cell1; have h2 := (HI.out.box.step hF).cells.cell2; have h3 := (HI.out.box.step hF).cells.cell3; have h4 := (HI.out.box.step hF).cells.cell4; simp only [Nat.zero_add] at h1 h2 h3 h4; clear hF; go_simp; try rfl
              rotate_left
              · simp only [Act.put]; exact rfl
              refine Calm.takeL 14 (i := 6) (v := ?_) (a' := ?_) (l' := #[true, true, true, true, true, true, true, false, false, false, false, false, false, false]) (d := some 39) (by kernel_rfl) rfl (by kernel_rfl) (by kernel_rfl) (by kernel_rfl) (by kernel_rfl) (fun _ _ _ h => h) HF.out rfl ?_ rfl rfl ?_ ?_
              rotate_left
              · intro w' hF; have e0 := (HI.out.rs.kx.step hF).cell2; rw [List.length_cons] at e0; have g0 := (IC.out.step hF).cell0; have g1 := (IC.out.step hF).cell1; have g2 := (IC.out.step hF).cell2; have g3 := (IC.out.step hF).cell3; have g4 := (IC.out.step hF).cell4; simp only [Nat.zero_add] at g0 g1 g2 g3 g4; have h0 := (HI.out.box.step hF).cells.cell0; have h1 := (HI.out.box.step hF).cells.cell1; have h2 := (HI.out.box.step hF).cells.cell2; have h3 := (HI.out.box.step hF).cells.cell3; have h4 := (HI.out.box.step hF).cells.cell4; simp only [Nat.zero_add] at h1 h2 h3 h4; clear hF; go_simp; try rfl
              rotate_left
              · simp only [Act.put]; exact rfl
              refine Calm.two (i := 7) (j := 11) (l := #[true, true, true, true, true, true, true, true, false, false, false, false, false, false]) (l' := #[true, true, true, true, true, true, true, false, false, false, false, true, false, false]) (by kernel_rfl) rfl rfl rfl rfl rfl rfl (fun K hK => ?_) (fun K hK => ?_)
              · go_simp
                refine (rmelt_any c b _ MC.out HI.out.mb).mono ?_
                rintro e u1 ⟨rfl, hb⟩
                rw [HM2.out]
                unfold mlE mlV
                dsimp only [Option.getD_none, Option.isSome_none]
                have HF' := hide (HF.out.trans ((hb).mono HF.out.size))
                refine hK _ _ (fun _ => HF'.out) ?_
                clear hK K HF hb
                have HF := hide HF'.out
                clear HF'
                refine Calm.takeL 14 (i := 8) (v := ?_) (a' := ?_) (l' := #[true, true, true, true, true, true, true, true, true, false, false, false, false, false]) (d := some 32) (by kernel_rfl) rfl (by kernel_rfl) (by kernel_rfl) (by kernel_rfl) (by kernel_rfl) (fun _ _ _ h => h) HF.out rfl ?_ rfl rfl ?_ ?_
                rotate_left
                · intro w' hF; clear hF; go_simp; try rfl
                rotate_left
                · simp only [Act.put]; exact rfl
                refine Calm.takeL 14 (i := 9) (v := ?_) (a' := ?_) (l' := #[true, true, true, true, true, true, true, true, true, true, false, false, false, false]) (d := some 41) (by kernel_rfl) rfl (by kernel_rfl) (by kernel_rfl) (by kernel_rfl) (by kernel_rfl) (fun _ _ _ h => h) HF.out rfl ?_ rfl rfl ?_ ?_
                rotate_left
                · intro w' hF; clear hF; go_simp; try rfl
                rotate_left
                · simp only [Act.put]; exact rfl
                refine Calm.takeL 14 (i := 10) (v := ?_) (a' := ?_) (l' := #[true, true, true, true, true, true, true, true, true, true, true, false, false, false]) (d := some 42) (by kernel_rfl) rfl (by kernel_rfl) (by kernel_rfl) (by kernel_rfl) (by kernel_rfl) (fun _ _ _ h => h) HF.out rfl ?_ rfl rfl ?_ ?_
                rotate_left
                · intro w' hF; clear hF; go_simp; try rfl
                rotate_left
                · simp only [Act.put]; exact rfl
                refine Calm.one (i := 11) (l' := #[true, true, true, true, true, true, true, true, true, true, true, true, false, false]) (by kernel_rfl) rfl rfl rfl fun K hK => ?_
                go_simp
                have al := below_alloc u1 (.cells #[.int .i64 0, .int .i64 0, .int .i64 0, .int .i64 0, .int .i64 0] 24)
                have HF' := hide (HF.out.trans ((al).mono HF.out.size))
                have BXx := hide (show Box5 (u1.alloc (.cells #[.int .i64 0, .int .i64 0, .int .i64 0, .int .i64 0, .int .i64 0] 24)) u1.heap.size 24 ⟨0, 0, 0, 0, 0⟩ from Box5.new u1 24 ⟨0, 0, 0, 0, 0⟩)
                have GEx := hide (HF.out.size)
                refine hK _ _ (fun _ => HF'.out) ?_
                clear hK K HF al
                have HF := hide HF'.out
                clear HF'
                generalize u1.alloc (.cells #[.int .i64 0, .int .i64 0, .int .i64 0, .int .i64 0, .int .i64 0] 24) = wzx at *
                generalize u1.heap.size = gx at *
                refine Calm.one (i := 12) (l' := #[true, true, true, true, true, true, true, true, true, true, true, true, true, false]) (by kernel_rfl) rfl rfl rfl fun K hK => ?_
                have r0 := BXx.out.cells.cell0
                have r1 := BXx.out.cells.cell1
                have r2 := BXx.out.cells.cell2
                have r3 := BXx.out.cells.cell3
                have r4 := BXx.out.cells.cell4
                simp only [Nat.zero_add] at r1 r2 r3 r4
                have s0 := BXx.out.free 0
                have s1 := BXx.out.free 1
                have s2 := BXx.out.free 2
                have s3 := BXx.out.free 3
                have s4 := BXx.out.free 4
                go_simp
                have HF' := hide (below_put5 HF.out GEx.out (.int .i64 0) (.int .i64 0) (.int .i64 0) (.int .i64 0) (.int .i64 0))
                replace BXx := hide (BXx.out.put ⟨0, 0, 0, 0, 0⟩)
                try dsimp only at BXx
                refine hK _ _ (fun _ => HF'.out) ?_
                clear hK K HF r0 r1 r2 r3 r4 s0 s1 s2 s3 s4
                have HF := hide HF'.out
                clear HF'
                generalize (((((wzx.setCell ⟨gx, 0, none⟩ (.int .i64 0)).setCell ⟨gx, 1, none⟩ (.int .i64 0)).setCell ⟨gx, 2, none⟩ (.int .i64 0)).setCell ⟨gx, 3, none⟩ (.int .i64 0)).setCell ⟨gx, 4, none⟩ (.int .i64 0)) = w9 at *
                refine Calm.takeL 14 (i := 13) (v := ?_) (a' := ?_) (l' := #[true, true, true, true, true, true, true, true, true, true, true, true, true, true]) (d := some 8) (by kernel_rfl) rfl (by kernel_rfl) (by kernel_rfl) (by kernel_rfl) (by kernel_rfl) (fun _ _ _ h => h) HF.out rfl ?_ rfl rfl ?_ ?_
                rotate_left
                · intro w' hF; clear hF; go_simp; try rfl
                rotate_left
                · simp only [Act.put]; exact rfl
                refine Calm.done (by kernel_rfl) ?_
                have hbb := HF.out
                have XB := hide BXx.out
                replace HI := hide (HI.out.step hbb)
                have KG : Hid (K ≠ gx) := hide (Nat.ne_of_lt (Nat.lt_of_lt_of_le KL.out GEx.out))
                have CG : Hid (C ≠ gx) := hide (Nat.ne_of_lt (Nat.lt_of_lt_of_le CL1.out GEx.out))
                clear hbb HF BXx IC
                have e := HP2.out
                rw [push_none (S := (c :: S2)) HN.out hM] at e
                subst e
                have y2 := HI.out.rs.kx.cell2
                have k0 := HI.out.box.cells.cell0
                have k1 := HI.out.box.cells.cell1
                have k2 := HI.out.box.cells.cell2
                have k3 := HI.out.box.cells.cell3
                have k4 := HI.out.box.cells.cell4
                simp only [Nat.zero_add] at k1 k2 k3 k4
                have HA := hide (HI.out.step (below_alloc w9 (.cells #[.int .i64 b.op, .int .i64 b.to, .int .i64 b.a, .int .i64 b.b, .int .i64 b.c] 24)))
                have CC : Hid (CodeAt (w9.alloc (.cells #[.int .i64 b.op, .int .i64 b.to, .int .i64 b.a, .int .i64 b.b, .int .i64 b.c] 24)) (.slice (some ⟨w9.heap.size, 0, none⟩) 1 1) [b]) := hide (code1 w9 b rfl)
                go_wp2_with (at_builtin; refine app_code rfl _ _ rfl w.heap.size _ ((c :: S2)).reverse rfl HA.out.rs.oc _ [b] rfl CC.out (by have := HL.out; first | (simp; done) | (simp; omega)) HA.out.rs.bel.size ?_)
                intro v' w8 hown hgrow
                have bx' := HA.out.rs.kx.grow hgrow (box_row_ne HA.out.rs.kx HA.out.rs.oc (by decide))
                have z2 := bx'.cell2
                have f2 := bx'.free 2
                have hown' : OwnC w8 w.heap.size v' (b :: (c :: S2)).reverse := by first | (rw [List.reverse_cons]; exact hown) | (have e5 : (b :: (c :: S2)).reverse = _ := List.reverse_cons; simp at e5; rw [show (b :: (c :: S2)).reverse = S2.reverse ++ [c, b] by simp]; exact hown)
                have NN := hide (HA.out.rs.app hgrow (b := b) hown' HI.out.mb)
                obtain ⟨va', vcap', he⟩ := own_slice hown'
                rw [List.length_reverse] at he
                subst he
                clear hown hown' hgrow CC HA HI bx' y2 k0 k1 k2 k3 k4
                go_wp2
                go_roundw
                case rel => exact ⟨k + 1, b :: (c :: S2), va', vcap', by omega, by go_num, GT.out.symm, NN.out⟩
                case measure => simp [intOf]; omega
              · go_simp
                have al := below_alloc w7d (.cells #[.int .i64 0, .int .i64 0, .int .i64 0, .int .i64 0, .int .i64 0] 24)
                have HF' := hide (HF.out.trans ((al).mono HF.out.size))
                have BXx := hide (show Box5 (w7d.alloc (.cells #[.int .i64 0, .int .i64 0, .int .i64 0, .int .i64 0, .int .i64 0] 24)) w7d.heap.size 24 ⟨0, 0, 0, 0, 0⟩ from Box5.new w7d 24 ⟨0, 0, 0, 0, 0⟩)
                have GEx := hide (HF.out.size)
                refine hK _ _ (fun _ => HF'.out) ?_
                clear hK K HF al
                have HF := hide HF'.out
                clear HF'
                generalize w7d.alloc (.cells #[.int .i64 0, .int .i64 0, .int .i64 0, .int .i64 0, .int .i64 0] 24) = wzx at *
                generalize w7d.heap.size = gx at *
                refine Calm.one (i := 7) (l' := #[true, true, true, true, true, true, true, true, false, false, false, true, false, false]) (by kernel_rfl) rfl rfl rfl fun K hK => ?_
                go_simp
                refine (rmelt_any c b _ MC.out HI.out.mb).mono ?_
                rintro e u1 ⟨rfl, hb⟩
                rw [HM2.out]
                unfold mlE mlV
                dsimp only [Option.getD_none, Option.isSome_none]
                replace BXx := hide (BXx.out.step hb)
                have HF' := hide (HF.out.trans ((hb).mono HF.out.size))
                refine hK _ _ (fun _ => HF'.out) ?_
                clear hK K HF hb
                have HF := hide HF'.out
                clear HF'
                refine Calm.takeL 14 (i := 8) (v := ?_) (a' := ?_) (l' := #[true, true, true, true, true, true, true, true, true, false, false, true, false, false]) (d := some 32) (by kernel_rfl) rfl (by kernel_rfl) (by kernel_rfl) (by kernel_rfl) (by kernel_rfl) (fun _ _ _ h => h) HF.out rfl ?_ rfl rfl ?_ ?_
                rotate_left
                · intro w' hF; clear hF; go_simp; try rfl
                rotate_left
                · simp only [Act.put]; exact rfl
                refine Calm.takeL 14 (i := 9) (v := ?_) (a' := ?_) (l' := #[true, true, true, true, true, true, true, true, true, true, false, true, false, false]) (d := some 41) (by kernel_rfl) rfl (by kernel_rfl) (by kernel_rfl) (by kernel_rfl) (by kernel_rfl) (fun _ _ _ h => h) HF.out rfl ?_ rfl rfl ?_ ?_
                rotate_left
                · intro w' hF; clear hF; go_simp; try rfl
                rotate_left
                · simp only [Act.put]; exact rfl
                refine Calm.takeL 14 (i := 10) (v := ?_) (a' := ?_) (l' := #[true, true, true, true, true, true, true, true, true, true, true, true, false, false]) (d := some 42) (by kernel_rfl) rfl (by kernel_rfl) (by kernel_rfl) (by kernel_rfl) (by kernel_rfl) (fun _ _ _ h => h) HF.out rfl ?_ rfl rfl ?_ ?_
                rotate_left
                · intro w' hF; clear hF; go_simp; try rfl
                rotate_left
                · simp only [Act.put]; exact rfl
                refine Calm.one (i := 12) (l' := #[true, true, true, true, true, true, true, true, true, true, true, true, true, false]) (by kernel_rfl) rfl rfl rfl fun K hK => ?_
                have r0 := BXx.out.cells.cell0
                have r1 := BXx.out.cells.cell1
                have r2 := BXx.out.cells.cell2
                have r3 := BXx.out.cells.cell3
                have r4 := BXx.out.cells.cell4
                simp only [Nat.zero_add] at r1 r2 r3 r4
                have s0 := BXx.out.free 0
                have s1 := BXx.out.free 1
                have s2 := BXx.out.free 2
                have s3 := BXx.out.free 3
                have s4 := BXx.out.free 4
                go_simp
                have HF' := hide (below_put5 HF.out GEx.out (.int .i64 0) (.int .i64 0) (.int .i64 0) (.int .i64 0) (.int .i64 0))
                replace BXx := hide (BXx.out.put ⟨0, 0, 0, 0, 0⟩)
                try dsimp only at BXx
                refine hK _ _ (fun _ => HF'.out) ?_
                clear hK K HF r0 r1 r2 r3 r4 s0 s1 s2 s3 s4
                have HF := hide HF'.out
                clear HF'
                generalize (((((u1.setCell ⟨gx, 0, none⟩ (.int .i64 0)).setCell ⟨gx, 1, none⟩ (.int .i64 0)).setCell ⟨gx, 2, none⟩ (.int .i64 0)).setCell ⟨gx, 3, none⟩ (.int .i64 0)).setCell ⟨gx, 4, none⟩ (.int .i64 0)) = w9 at *
                refine Calm.takeL 14 (i := 13) (v := ?_) (a' := ?_) (l' := #[true, true, true, true, true, true, true, true, true, true, true, true, true, true]) (d := some 8) (by kernel_rfl) rfl (by kernel_rfl) (by kernel_rfl) (by kernel_rfl) (by kernel_rfl) (fun _ _ _ h => h) HF.out rfl ?_ rfl rfl ?_ ?_
                rotate_left
                · intro w' hF; clear hF; go_simp; try rfl
                rotate_left
                · simp only [Act.put]; exact rfl
                refine Calm.done (by kernel_rfl) ?_
                have hbb := HF.out
                have XB := hide BXx.out
                replace HI := hide (HI.out.step hbb)
                have KG : Hid (K ≠ gx) := hide (Nat.ne_of_lt (Nat.lt_of_lt_of_le KL.out GEx.out))
                have CG : Hid (C ≠ gx) := hide (Nat.ne_of_lt (Nat.lt_of_lt_of_le CL1.out GEx.out))
                clear hbb HF BXx IC
                have e := HP2.out
                rw [push_none (S := (c :: S2)) HN.out hM] at e
                subst e
                have y2 := HI.out.rs.kx.cell2
                have k0 := HI.out.box.cells.cell0
                have k1 := HI.out.box.cells.cell1
                have k2 := HI.out.box.cells.cell2
                have k3 := HI.out.box.cells.cell3
                have k4 := HI.out.box.cells.cell4
                simp only [Nat.zero_add] at k1 k2 k3 k4
                have HA := hide (HI.out.step (below_alloc w9 (.cells #[.int .i64 b.op, .int .i64 b.to, .int .i64 b.a, .int .i64 b.b, .int .i64 b.c] 24)))
                have CC : Hid (CodeAt (w9.alloc (.cells #[.int .i64 b.op, .int .i64 b.to, .int .i64 b.a, .int .i64 b.b, .int .i64 b.c] 24)) (.slice (some ⟨w9.heap.size, 0, none⟩) 1 1) [b]) := hide (code1 w9 b rfl)
                go_wp2_with (at_builtin; refine app_code rfl _ _ rfl w.heap.size _ ((c :: S2)).reverse rfl HA.out.rs.oc _ [b] rfl CC.out (by have := HL.out; first | (simp; done) | (simp; omega)) HA.out.rs.bel.size ?_)
                intro v' w8 hown hgrow
                have bx' := HA.out.rs.kx.grow hgrow (box_row_ne HA.out.rs.kx HA.out.rs.oc (by decide))
                have z2 := bx'.cell2
                have f2 := bx'.free 2
                have hown' : OwnC w8 w.heap.size v' (b :: (c :: S2)).reverse := by first | (rw [List.reverse_cons]; exact hown) | (have e5 : (b :: (c :: S2)).reverse = _ := List.reverse_cons; simp at e5; rw [show (b :: (c :: S2)).reverse = S2.reverse ++ [c, b] by simp]; exact hown)
                have NN := hide (HA.out.rs.app hgrow (b := b) hown' HI.out.mb)
                obtain ⟨va', vcap', he⟩ := own_slice hown'
                rw [List.length_reverse] at he
                subst he
                clear hown hown' hgrow CC HA HI bx' y2 k0 k1 k2 k3 k4
                go_wp2
                go_roundw
                case rel => exact ⟨k + 1, b :: (c :: S2), va', vcap', by omega, by go_num, GT.out.symm, NN.out⟩
                case measure => simp [intOf]; omega
            | some x =>
              have HM2 := hide hM
              have MX := hide (meI_may MC.out HI.out.mb hM).1
              have HP3 := hide ((pushI_melt c S2 b x HN.out hM).symm.trans HP2.out)
              clear hM HP2
              refine wp_calm (fun w' => Below w7.heap.size w7 w') (fun _ => true) 14 #[false, false, false, false, false, false, false, false, false, false, false, false, false, false] (by kernel_rfl) rfl rfl ?_
              have HF := hide ((Below.refl w7.heap.size w7).drew)
              generalize w7.drew = w7d at *
              refine Calm.takeL 14 (i := 0) (v := ?_) (a' := ?_) (l' := #[true, false, false, false, false, false, false, false, false, false, false, false, false, false]) (d := some 33) (by kernel_rfl) rfl (by kernel_rfl) (by kernel_rfl) (by kernel_rfl) (by kernel_rfl) (fun _ _ _ h => h) HF.out rfl ?_ rfl rfl ?_ ?_
              rotate_left
              · intro w' hF; clear hF; go_simp; try rfl
              rotate_left
              · simp only [Act.put]; exact rfl
              refine Calm.takeL 14 (i := 1) (v := ?_) (a' := ?_) (l' := #[true, true, false, false, false, false, false, false, false, false, false, false, false, false]) (d := some 34) (by kernel_rfl) rfl (by kernel_rfl) (by kernel_rfl) (by kernel_rfl) (by kernel_rfl) (fun _ _ _ h => h) HF.out rfl ?_ rfl rfl ?_ ?_
              rotate_left
              · intro w' hF; have e0 := (HI.out.rs.kx.step hF).cell2; rw [List.length_cons] at e0; have g0 := (IC.out.step hF).cell0; have g1 := (IC.out.step hF).cell1; have g2 := (IC.out.step hF).cell2; have g3 := (IC.out.step hF).cell3; have g4 := (IC.out.step hF).cell4; simp only [Nat.zero_add] at g0 g1 g2 g3 g4; have h0 := (HI.out.box.step hF).cells.cell0; have h1 := (HI.out.box.step hF).cells.cell1; have h2 := (HI.out.box.step hF).cells.cell2; have h3 := (HI.out.box.step hF).cells.cell3; have h4 := (HI.out.box.step hF).cells.cell4; simp only [Nat.zero_add] at h1 h2 h3 h4; clear hF; go_simp; try rfl
              rotate_left
              · simp only [Act.put]; exact rfl
              refine Calm.takeL 14 (i := 2) (v := ?_) (a' := ?_) (l' := #[true, true, true, false, false, false, false, false, false, false, false, false, false, false]) (d := some 35) (by kernel_rfl) rfl (by kernel_rfl) (by kernel_rfl) (by kernel_rfl) (by kernel_rfl) (fun _ _ _ h => h) HF.out rfl ?_ rfl rfl ?_ ?_
              rotate_left
              · intro w' hF; clear hF; go_simp; try rfl
              rotate_left
              · simp only [Act.put]; exact rfl
              refine Calm.takeL 14 (i := 3) (v := ?_) (a' := ?_) (l' := #[true, true, true, true, false, false, false, false, false, false, false, false, false, false]) (d := some 36) (by kernel_rfl) rfl (by kernel_rfl) (by kernel_rfl) (by kernel_rfl) (by kernel_rfl) (fun _ _ _ h => h) HF.out rfl ?_ rfl rfl ?_ ?_
              rotate_left
              · intro w' hF; clear hF; go_simp; try rfl
              rotate_left
              · simp only [Act.put]; exact rfl
              refine Calm.takeL 14 (i := 4) (v := ?_) (a' := ?_) (l' := #[true, true, true, true, true, false, false, false, false, false, false, false, false, false]) (d := some 37) (by kernel_rfl) rfl (by kernel_rfl) (by kernel_rfl) (by kernel_rfl) (by kernel_rfl) (fun _ _ _ h => h) HF.out rfl ?_ rfl rfl ?_ ?_
              rotate_left
              · intro w' hF; clear hF; go_simp; try rfl
              rotate_left
              · simp only [Act.put]; exact rfl
              refine Calm.takeL 14 (i := 5) (v := ?_) (a' := ?_) (l' := #[true, true, true, true, true, true, false, false, false, false, false, false, false, false]) (d := some 38) (by kernel_rfl) rfl (by kernel_rfl) (by kernel_rfl) (by kernel_rfl) (by kernel_rfl) (fun _ _ _ h => h) HF.out rfl ?_ rfl rfl ?_ ?_
              rotate_left
              · intro w' hF; have e0 := (HI.out.rs.kx.step hF).cell2; rw [List.length_cons] at e0; have g0 := (IC.out.step hF).cell0; have g1 := (IC.out.step hF).cell1; have g2 := (IC.out.step hF).cell2; have g3 := (IC.out.step hF).cell3; have g4 := (IC.out.step hF).cell4; simp only [Nat.zero_add] at g0 g1 g2 g3 g4; have h0 := (HI.out.box.step hF).cells.cell0; have h1 := (HI.out.box.step hF).cells.cell1; have h2 := (HI.out.box.step hF).cells.cell2; have h3 := (HI.out.box.step hF).cells.cell3; have h4 := (HI.out.box.step hF).cells.cell4; simp only [Nat.zero_add] at h1 h2 h3 h4; clear hF; go_simp; try rfl
              rotate_left
              · simp only [Act.put]; exact rfl
              refine Calm.takeL 14 (i := 6) (v := ?_) (a' := ?_) (l' := #[true, true, true, true, true, true, true, false, false, false, false, false, false, false]) (d := some 39) (by kernel_rfl) rfl (by kernel_rfl) (by kernel_rfl) (by kernel_rfl) (by kernel_rfl) (fun _ _ _ h => h) HF.out rfl ?_ rfl rfl ?_ ?_
              rotate_left
              · intro w' hF; have e0 := (HI.out.rs.kx.step hF).cell2; rw [List.length_cons] at e0; have g0 := (IC.out.step hF).cell0; have g1 := (IC.out.step hF).cell1; have g2 := (IC.out.step hF).cell2; have g3 := (IC.out.step hF).cell3; have g4 := (IC.out.step hF).cell4; simp only [Nat.zero_add] at g0 g1 g2 g3 g4; have h0 := (HI.out.box.step hF).cells.cell0; have h1 := (HI.out.box.step hF).cells.cell1; have h2 := (HI.out.box.step hF).cells.cell2; have h3 := (HI.out.box.step hF).cells.cell3; have h4 := (HI.out.box.step hF).cells.cell4; simp only [Nat.zero_add] at h1 h2 h3 h4; clear hF; go_simp; try rfl
              rotate_left
              · simp only [Act.put]; exact rfl
              refine Calm.two (i := 7) (j := 11) (l := #[true, true, true, true, true, true, true, true, false, false, false, false, false, false]) (l' := #[true, true, true, true, true, true, true, false, false, false, false, true, false, false]) (by kernel_rfl) rfl rfl rfl rfl rfl rfl (fun K hK => ?_) (fun K hK => ?_)
              · go_simp
                refine (rmelt_any c b _ MC.out HI.out.mb).mono ?_
                rintro e u1 ⟨rfl, hb⟩
                rw [HM2.out]
                unfold mlE mlV
                dsimp only [Option.getD_some, Option.isSome_some]
                have HF' := hide (HF.out.trans ((hb).mono HF.out.size))
                refine hK _ _ (fun _ => HF'.out) ?_
                clear hK K HF hb
                have HF := hide HF'.out
                clear HF'
                refine Calm.takeL 14 (i := 8) (v := ?_) (a' := ?_) (l' := #[true, true, true, true, true, true, true, true, true, false, false, false, false, false]) (d := some 32) (by kernel_rfl) rfl (by kernel_rfl) (by kernel_rfl) (by kernel_rfl) (by kernel_rfl) (fun _ _ _ h => h) HF.out rfl ?_ rfl rfl ?_ ?_
                rotate_left
                · intro w' hF; clear hF; go_simp; try rfl
                rotate_left
                · simp only [Act.put]; exact rfl
                refine Calm.takeL 14 (i := 9) (v := ?_) (a' := ?_) (l' := #[true, true, true, true, true, true, true, true, true, true, false, false, false, false]) (d := some 41) (by kernel_rfl) rfl (by kernel_rfl) (by kernel_rfl) (by kernel_rfl) (by kernel_rfl) (fun _ _ _ h => h) HF.out rfl ?_ rfl rfl ?_ ?_
                rotate_left
                · intro w' hF; clear hF; go_simp; try rfl
                rotate_left
                · simp only [Act.put]; exact rfl
                refine Calm.takeL 14 (i := 10) (v := ?_) (a' := ?_) (l' := #[true, true, true, true, true, true, true, true, true, true, true, false, false, false]) (d := some 42) (by kernel_rfl) rfl (by kernel_rfl) (by kernel_rfl) (by kernel_rfl) (by kernel_rfl) (fun _ _ _ h => h) HF.out rfl ?_ rfl rfl ?_ ?_
                rotate_left
                · intro w' hF; clear hF; go_simp; try rfl
                rotate_left
                · simp only [Act.put]; exact rfl
                refine Calm.one (i := 11) (l' := #[true, true, true, true, true, true, true, true, true, true, true, true, false, false]) (by kernel_rfl) rfl rfl rfl fun K hK => ?_
                go_simp
                have al := below_alloc u1 (.cells #[.int .i64 0, .int .i64 0, .int .i64 0, .int .i64 0, .int .i64 0] 24)
                have HF' := hide (HF.out.trans ((al).mono HF.out.size))
                have BXx := hide (show Box5 (u1.alloc (.cells #[.int .i64 0, .int .i64 0, .int .i64 0, .int .i64 0, .int .i64 0] 24)) u1.heap.size 24 ⟨0, 0, 0, 0, 0⟩ from Box5.new u1 24 ⟨0, 0, 0, 0, 0⟩)
                have GEx := hide (HF.out.size)
                refine hK _ _ (fun _ => HF'.out) ?_
                clear hK K HF al
                have HF := hide HF'.out
                clear HF'
                generalize u1.alloc (.cells #[.int .i64 0, .int .i64 0, .int .i64 0, .int .i64 0, .int .i64 0] 24) = wzx at *
                generalize u1.heap.size = gx at *
                refine Calm.one (i := 12) (l' := #[true, true, true, true, true, true, true, true, true, true, true, true, true, false]) (by kernel_rfl) rfl rfl rfl fun K hK => ?_
                have r0 := BXx.out.cells.cell0
                have r1 := BXx.out.cells.cell1
                have r2 := BXx.out.cells.cell2
                have r3 := BXx.out.cells.cell3
                have r4 := BXx.out.cells.cell4
                simp only [Nat.zero_add] at r1 r2 r3 r4
                have s0 := BXx.out.free 0
                have s1 := BXx.out.free 1
                have s2 := BXx.out.free 2
                have s3 := BXx.out.free 3
                have s4 := BXx.out.free 4
                go_simp
                have HF' := hide (below_put5 HF.out GEx.out (.int .i64 x.op) (.int .i64 x.to) (.int .i64 x.a) (.int .i64 x.b) (.int .i64 x.c))
                replace BXx := hide (BXx.out.put ⟨x.op, x.to, x.a, x.b, x.c⟩)
                try dsimp only at BXx
                refine hK _ _ (fun _ => HF'.out) ?_
                clear hK K HF r0 r1 r2 r3 r4 s0 s1 s2 s3 s4
                have HF := hide HF'.out
                clear HF'
                generalize (((((wzx.setCell ⟨gx, 0, none⟩ (.int .i64 x.op)).setCell ⟨gx, 1, none⟩ (.int .i64 x.to)).setCell ⟨gx, 2, none⟩ (.int .i64 x.a)).setCell ⟨gx, 3, none⟩ (.int .i64 x.b)).setCell ⟨gx, 4, none⟩ (.int .i64 x.c)) = w9 at *
                refine Calm.takeL 14 (i := 13) (v := ?_) (a' := ?_) (l' := #[true, true, true, true, true, true, true, true, true, true, true, true, true, true]) (d := some 8) (by kernel_rfl) rfl (by kernel_rfl) (by kernel_rfl) (by kernel_rfl) (by kernel_rfl) (fun _ _ _ h => h) HF.out rfl ?_ rfl rfl ?_ ?_
                rotate_left
                · intro w' hF; clear hF; go_simp; try rfl
                rotate_left
                · simp only [Act.put]; exact rfl
                refine Calm.done (by kernel_rfl) ?_
                have hbb := HF.out
                have XB := hide BXx.out
                replace HI := hide (HI.out.step hbb)
                have KG : Hid (K ≠ gx) := hide (Nat.ne_of_lt (Nat.lt_of_lt_of_le KL.out GEx.out))
                have CG : Hid (C ≠ gx) := hide (Nat.ne_of_lt (Nat.lt_of_lt_of_le CL1.out GEx.out))
                clear hbb HF BXx IC
                have c2 := HI.out.rs.kx.cell2
                have f2 := HI.out.rs.kx.free 2
                rw [List.length_cons] at c2
                go_upto_region 13 with fail
                clear c2 f2
                replace XB := hide (XB.out.set_ne (C := K) (o := 2) KG.out (.slice (some ⟨g, 0, none⟩) S2.length cap'))
                replace HI := hide HI.out.cut
                generalize w9.setCell ⟨K, 2, none⟩ (.slice (some ⟨g, 0, none⟩) S2.length cap') = w10 at *
                have x0 := XB.out.cells.cell0
                have x1 := XB.out.cells.cell1
                have x2 := XB.out.cells.cell2
                have x3 := XB.out.cells.cell3
                have x4 := XB.out.cells.cell4
                simp only [Nat.zero_add] at x1 x2 x3 x4
                have k0 := HI.out.box.cells.cell0
                have k1 := HI.out.box.cells.cell1
                have k2 := HI.out.box.cells.cell2
                have k3 := HI.out.box.cells.cell3
                have k4 := HI.out.box.cells.cell4
                simp only [Nat.zero_add] at k1 k2 k3 k4
                have f0 := HI.out.box.free 0
                have f1 := HI.out.box.free 1
                have f2 := HI.out.box.free 2
                have f3 := HI.out.box.free 3
                have f4 := HI.out.box.free 4
                have NN := hide (HI.out.put MX.out)
                go_wp2
                go_roundw
                case rel => exact ⟨S2, some ⟨g, 0, none⟩, cap', x, by omega, NN.out, HP3.out⟩
                case measure => rw [CL0.out, NN.out.rs.kx.cell2]; simp [slLen]
              · go_simp
                have al := below_alloc w7d (.cells #[.int .i64 0, .int .i64 0, .int .i64 0, .int .i64 0, .int .i64 0] 24)
                have HF' := hide (HF.out.trans ((al).mono HF.out.size))
                have BXx := hide (show Box5 (w7d.alloc (.cells #[.int .i64 0, .int .i64 0, .int .i64 0, .int .i64 0, .int .i64 0] 24)) w7d.heap.size 24 ⟨0, 0, 0, 0, 0⟩ from Box5.new w7d 24 ⟨0, 0, 0, 0, 0⟩)
                have GEx := hide (HF.out.size)
                refine hK _ _ (fun _ => HF'.out) ?_
                clear hK K HF al
                have HF := hide HF'.out
                clear HF'
                generalize w7d.alloc (.cells #[.int .i64 0, .int .i64 0, .int .i64 0, .int .i64 0, .int .i64 0] 24) = wzx at *
                generalize w7d.heap.size = gx at *
                refine Calm.one (i := 7) (l' := #[true, true, true, true, true, true, true, true, false, false, false, true, false, false]) (by kernel_rfl) rfl rfl rfl fun K hK => ?_
                go_simp
                refine (rmelt_any c b _ MC.out HI.out.mb).mono ?_
                rintro e u1 ⟨rfl, hb⟩
                rw [HM2.out]
                unfold mlE mlV
                dsimp only [Option.getD_some, Option.isSome_some]
                replace BXx := hide (BXx.out.step hb)
                have HF' := hide (HF.out.trans ((hb).mono HF.out.size))
                refine hK _ _ (fun _ => HF'.out) ?_
                clear hK K HF hb
                have HF := hide HF'.out
                clear HF'
                refine Calm.takeL 14 (i := 8) (v := ?_) (a' := ?_) (l' := #[true, true, true, true, true, true, true, true, true, false, false, true, false, false]) (d := some 32) (by kernel_rfl) rfl (by kernel_rfl) (by kernel_rfl) (by kernel_rfl) (by kernel_rfl) (fun _ _ _ h => h) HF.out rfl ?_ rfl rfl ?_ ?_
                rotate_left
                · intro w' hF; clear hF; go_simp; try rfl
                rotate_left
                · simp only [Act.put]; exact rfl
                refine Calm.takeL 14 (i := 9) (v := ?_) (a' := ?_) (l' := #[true, true, true, true, true, true, true, true, true, true, false, true, false, false]) (d := some 41) (by kernel_rfl) rfl (by kernel_rfl) (by kernel_rfl) (by kernel_rfl) (by kernel_rfl) (fun _ _ _ h => h) HF.out rfl ?_ rfl rfl ?_ ?_
                rotate_left
                · intro w' hF; clear hF; go_simp; try rfl
                rotate_left
                · simp only [Act.put]; exact rfl
                refine Calm.takeL 14 (i := 10) (v := ?_) (a' := ?_) (l' := #[true, true, true, true, true, true, true, true, true, true, true, true, false, false]) (d := some 42) (by kernel_rfl) rfl (by kernel_rfl) (by kernel_rfl) (by kernel_rfl) (by kernel_rfl) (fun _ _ _ h => h) HF.out rfl ?_ rfl rfl ?_ ?_
                rotate_left
                · intro w' hF; clear hF; go_simp; try rfl
                rotate_left
                · simp only [Act.put]; exact rfl
                refine Calm.one (i := 12) (l' := #[true, true, true, true, true, true, true, true, true, true, true, true, true, false]) (by kernel_rfl) rfl rfl rfl fun K hK => ?_
                have r0 := BXx.out.cells.cell0
                have r1 := BXx.out.cells.cell1
                have r2 := BXx.out.cells.cell2
                have r3 := BXx.out.cells.cell3
                have r4 := BXx.out.cells.cell4
                simp only [Nat.zero_add] at r1 r2 r3 r4
                have s0 := BXx.out.free 0
                have s1 := BXx.out.free 1
                have s2 := BXx.out.free 2
                have s3 := BXx.out.free 3
                have s4 := BXx.out.free 4
                go_simp
                have HF' := hide (below_put5 HF.out GEx.out (.int .i64 x.op) (.int .i64 x.to) (.int .i64 x.a) (.int .i64 x.b) (.int .i64 x.c))
                replace BXx := hide (BXx.out.put ⟨x.op, x.to, x.a, x.b, x.c⟩)
                try dsimp only at BXx
                refine hK _ _ (fun _ => HF'.out) ?_
                clear hK K HF r0 r1 r2 r3 r4 s0 s1 s2 s3 s4
                have HF := hide HF'.out
                clear HF'
                generalize (((((u1.setCell ⟨gx, 0, none⟩ (.int .i64 x.op)).setCell ⟨gx, 1, none⟩ (.int .i64 x.to)).setCell ⟨gx, 2, none⟩ (.int .i64 x.a)).setCell ⟨gx, 3, none⟩ (.int .i64 x.b)).setCell ⟨gx, 4, none⟩ (.int .i64 x.c)) = w9 at *
                refine Calm.takeL 14 (i := 13) (v := ?_) (a' := ?_) (l' := #[true, true, true, true, true, true, true, true, true, true, true, true, true, true]) (d := some 8) (by kernel_rfl) rfl (by kernel_rfl) (by kernel_rfl) (by kernel_rfl) (by kernel_rfl) (fun _ _ _ h => h) HF.out rfl ?_ rfl rfl ?_ ?_
                rotate_left
                · intro w' hF; clear hF; go_simp; try rfl
                rotate_left
                · simp only [Act.put]; exact rfl
                refine Calm.done (by kernel_rfl) ?_
                have hbb := HF.out
                have XB := hide BXx.out
                replace HI := hide (HI.out.step hbb)
                have KG : Hid (K ≠ gx) := hide (Nat.ne_of_lt (Nat.lt_of_lt_of_le KL.out GEx.out))
                have CG : Hid (C ≠ gx) := hide (Nat.ne_of_lt (Nat.lt_of_lt_of_le CL1.out GEx.out))
                clear hbb HF BXx IC
                have c2 := HI.out.rs.kx.cell2
                have f2 := HI.out.rs.kx.free 2
                rw [List.length_cons] at c2
                go_upto_region 13 with fail
                clear c2 f2
                replace XB := hide (XB.out.set_ne (C := K) (o := 2) KG.out (.slice (some ⟨g, 0, none⟩) S2.length cap'))
                replace HI := hide HI.out.cut
                generalize w9.setCell ⟨K, 2, none⟩ (.slice (some ⟨g, 0, none⟩) S2.length cap') = w10 at *
                have x0 := XB.out.cells.cell0
                have x1 := XB.out.cells.cell1
                have x2 := XB.out.cells.cell2
                have x3 := XB.out.cells.cell3
                have x4 := XB.out.cells.cell4
                simp only [Nat.zero_add] at x1 x2 x3 x4
                have k0 := HI.out.box.cells.cell0
                have k1 := HI.out.box.cells.cell1
                have k2 := HI.out.box.cells.cell2
                have k3 := HI.out.box.cells.cell3
                have k4 := HI.out.box.cells.cell4
                simp only [Nat.zero_add] at k1 k2 k3 k4
                have f0 := HI.out.box.free 0
                have f1 := HI.out.box.free 1
                have f2 := HI.out.box.free 2
                have f3 := HI.out.box.free 3
                have f4 := HI.out.box.free 4
                have NN := hide (HI.out.put MX.out)
                go_wp2
                go_roundw
                case rel => exact ⟨S2, some ⟨g, 0, none⟩, cap', x, by omega, NN.out, HP3.out⟩
                case measure => rw [CL0.out, NN.out.rs.kx.cell2]; simp [slLen]
    · have e : k = p.code.length := by omega
      subst e
      have HS2 : Hid (S = runI p.code) := hide (by rw [HS.out, runI_all])
      have c0 := HF.out.kx.cell0
      have c1 := HF.out.kx.cell1
      have c2 := HF.out.kx.cell2
      have c3 := HF.out.kx.cell3
      have c5 := HF.out.px.cell2
      have q0 := HF.out.rx.cell0
      have q1 := HF.out.rx.cell1
      have q2 := HF.out.rx.cell2
      have q3 := HF.out.rx.cell3
      have f0 := HF.out.rx.free 0
      have f1 := HF.out.rx.free 1
      have f2 := HF.out.rx.free 2
      have f3 := HF.out.rx.free 3
      go_wp2
      refine ret_pg rfl R _ _ _ _ rfl (HF.out.rx.put _ _ _ _) rfl ?_
      have n1 := box_row_ne HF.out.rx HF.out.oc (by decide)
      have n2 := box_row_ne HF.out.rx HF.out.oo (by decide)
      refine ⟨⟨_, rfl, _, _, rfl, ?_, ?_⟩, ?_⟩
      · have e : (pasP p).code = S.reverse := by unfold pasP fold; rw [HS2.out]
        rw [e]
        exact own_set_ne (own_set_ne (own_set_ne (own_set_ne HF.out.oc n1 _) n1 _) n1 _) n1 _
      · exact own_set_ne (own_set_ne (own_set_ne (own_set_ne HF.out.oo n2 _) n2 _) n2 _) n2 _
      · exact below_put4 HF.out.bel HF.out.ne.2.2.2 _ _ _ _
end Go.Proofs.YtlghhpgnhppoeaaDoor
