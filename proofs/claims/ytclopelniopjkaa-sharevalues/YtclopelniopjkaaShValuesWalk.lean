/- swagelaw14.ShareValues answers true at all programs, wherever what comes up twice is left, and turns nothing that was there. -/
import Derived.Test.YtclopelniopjkaaShVa
import Derived.Test.YtclopelniopjkaaShVl
import Derived.Test.YtclopelniopjkaaShLw
import Derived.Test.YtclopelniopjkaaPgRight
import Derived.Test.YtclopelniopjkaaCalmV
import Derived.Sort.LoopGhostIn
import Derived.RegionTactic
import Derived.Deep.Cut
namespace Go.Proofs.Ytclopelniopjkaa
open Go.RowKit Go.Shelf
attribute [local go_sem] Oper.semAt_some

theorem eql_tw1 (w : World) (lb : Array Value) : (binOp .eql 32 (.func (.func 26) #[] lb) .nilFunc).run Try.prog w = .ok (.bool false) w := by
  have h : ∀ d, (Op.equalIn (d + 1) 32 (.func (.func 26) #[] lb) .nilFunc).run Try.prog w = .ok false w := fun d => by simp [Op.equalIn, run_underlying Try.underlying32]
  simp only [binOp]
  simp [Op.equal, Op.maxDepth, h 9999]
theorem eql_tw2 (w : World) (lb : Array Value) : (binOp .eql 32 (.func (.func 28) #[] lb) .nilFunc).run Try.prog w = .ok (.bool false) w := by
  have h : ∀ d, (Op.equalIn (d + 1) 32 (.func (.func 28) #[] lb) .nilFunc).run Try.prog w = .ok false w := fun d => by simp [Op.equalIn, run_underlying Try.underlying32]
  simp only [binOp]
  simp [Op.equal, Op.maxDepth, h 9999]
theorem res_boolV {fn : Func} {p : Tmp} (h : fn.results = #[.cell p 4]) (tmps : Array Value) (w : World) (g : Nat) (b : Bool) (hp : tmps.getD p undef = .pointer (some ⟨g, 0, none⟩)) (hg : Boxed w g 4 (.bool b)) :
    (results fn tmps).run Try.prog w = .ok (.bool b) w := by
  have hp' : tmps[p]?.getD undef = .pointer (some ⟨g, 0, none⟩) := by simpa using hp
  have hc := hg.cell
  simp [results, h, hp', asAddr]
  go_simp
theorem arr_range (A : Array Value) : A = ((List.range A.size).map (fun q => A.getD q undef)).toArray := by
  apply Array.ext
  · simp
  · intro i h1 h2
    simp [Array.getD, h1]
set_option maxRecDepth 100000 in
theorem arrV (A : Array Value) (h : A.size = 163) : ∃ V : Nat → Value, A = #[V 0, V 1, V 2, V 3, V 4, V 5, V 6, V 7, V 8, V 9, V 10, V 11, V 12, V 13, V 14, V 15, V 16, V 17, V 18, V 19, V 20, V 21, V 22, V 23, V 24, V 25, V 26, V 27, V 28, V 29, V 30, V 31, V 32, V 33, V 34, V 35, V 36, V 37, V 38, V 39, V 40, V 41, V 42, V 43, V 44, V 45, V 46, V 47, V 48, V 49, V 50, V 51, V 52, V 53, V 54, V 55, V 56, V 57, V 58, V 59, V 60, V 61, V 62, V 63, V 64, V 65, V 66, V 67, V 68, V 69, V 70, V 71, V 72, V 73, V 74, V 75, V 76, V 77, V 78, V 79, V 80, V 81, V 82, V 83, V 84, V 85, V 86, V 87, V 88, V 89, V 90, V 91, V 92, V 93, V 94, V 95, V 96, V 97, V 98, V 99, V 100, V 101, V 102, V 103, V 104, V 105, V 106, V 107, V 108, V 109, V 110, V 111, V 112, V 113, V 114, V 115, V 116, V 117, V 118, V 119, V 120, V 121, V 122, V 123, V 124, V 125, V 126, V 127, V 128, V 129, V 130, V 131, V 132, V 133, V 134, V 135, V 136, V 137, V 138, V 139, V 140, V 141, V 142, V 143, V 144, V 145, V 146, V 147, V 148, V 149, V 150, V 151, V 152, V 153, V 154, V 155, V 156, V 157, V 158, V 159, V 160, V 161, V 162] := by
  refine ⟨fun q => A.getD q undef, ?_⟩
  have e := arr_range A
  rw [h] at e
  exact e.trans (by kernel_rfl)
set_option maxRecDepth 100000 in
set_option maxHeartbeats 16000000 in
theorem shvals_walk (v : Value) (p : Pg) (stop : Int) (w : World) (h : PgAt w v p) :
    Calls Try.prog 3 #[v, .int .i64 stop] w fun e w' => e = .returned (.bool true) ∧ Below w.heap.size w w' := by
  have HP := hide h
  obtain ⟨ca, cc, oa, oc, rfl, hc0, _⟩ := h
  have KC := hide hc0
  clear hc0
  refine callsC (n := 3) Try.func3 rfl ?_
  simp only [Try.ntmps3, List.size_toArray, List.length_cons, List.length_nil, Nat.reduceAdd, Nat.reduceSub, Array.replicate_succ, Array.replicate_zero, List.push_toArray, List.append_toArray, List.nil_append, List.cons_append]
  go_upto_region 1 with fail
  have b1 := below_alloc w (.cells #[.int .i64 p.ins, .int .i64 p.regs, .slice ca p.code.length cc, .slice oa p.outs.length oc] 25)
  have b2 := below_alloc (w.alloc (.cells #[.int .i64 p.ins, .int .i64 p.regs, .slice ca p.code.length cc, .slice oa p.outs.length oc] 25)) (.cells #[.int .i64 stop] 3)
  have b3 := below_alloc ((w.alloc (.cells #[.int .i64 p.ins, .int .i64 p.regs, .slice ca p.code.length cc, .slice oa p.outs.length oc] 25)).alloc (.cells #[.int .i64 stop] 3)) (.cells #[.bool false] 4)
  have PX := hide (((Box4.new w 25 (.int .i64 p.ins) (.int .i64 p.regs) (.slice ca p.code.length cc) (.slice oa p.outs.length oc)).step b2).step b3)
  have BE := hide (bx_step (Boxed.new (w.alloc (.cells #[.int .i64 p.ins, .int .i64 p.regs, .slice ca p.code.length cc, .slice oa p.outs.length oc] 25)) 3 (.int .i64 stop)) b3)
  have BR := hide (Boxed.new ((w.alloc (.cells #[.int .i64 p.ins, .int .i64 p.regs, .slice ca p.code.length cc, .slice oa p.outs.length oc] 25)).alloc (.cells #[.int .i64 stop] 3)) 4 (.bool false))
  simp only [World.size_alloc] at BE BR
  replace HP := hide (((HP.out.below b1).below b2).below b3)
  replace KC := hide (((KC.out.below b1).below b2).below b3)
  have HB := hide (b1.trans ((b2.trans (b3.mono b2.size)).mono b1.size))
  clear b1 b2 b3
  generalize ((w.alloc (.cells #[.int .i64 p.ins, .int .i64 p.regs, .slice ca p.code.length cc, .slice oa p.outs.length oc] 25)).alloc (.cells #[.int .i64 stop] 3)).alloc (.cells #[.bool false] 4) = w1 at *
  obtain ⟨B, hB⟩ : ∃ B, B = w.heap.size := ⟨_, rfl⟩
  have HZ := hide hB
  rw [← hB] at PX BE BR ⊢
  clear hB
  try simp only [Nat.add_assoc, Nat.reduceAdd] at BE BR ⊢
  obtain ⟨E, hE⟩ : ∃ E, E = B + 1 := ⟨_, rfl⟩
  obtain ⟨R, hR⟩ : ∃ R, R = B + 2 := ⟨_, rfl⟩
  have HE := hide hE
  have HR : Hid (w.heap.size ≤ R) := hide (by have := HZ.out; omega)
  rw [← hE] at BE ⊢
  rw [← hR] at BR ⊢
  clear hE hR HE HZ
  go_wp2_with fail
  refine (lv_any _).mono ?_
  rintro e w2 ⟨rfl, hb⟩
  replace HP := hide (HP.out.below hb)
  replace KC := hide (KC.out.below hb)
  replace PX := hide (PX.out.step hb)
  replace BE := hide (bx_step BE.out hb)
  replace BR := hide (bx_step BR.out hb)
  replace HB := hide (HB.out.trans (hb.mono HB.out.size))
  clear hb
  have c0 := PX.out.cell0
  have c1 := PX.out.cell1
  have c2 := PX.out.cell2
  have c3 := PX.out.cell3
  go_wp2_with fail
  refine (lg14_any _ p _ HP.out).mono ?_
  rintro e w3 ⟨rfl, hb⟩
  clear c0 c1 c2 c3
  replace HP := hide (HP.out.below hb)
  replace KC := hide (KC.out.below hb)
  replace PX := hide (PX.out.step hb)
  replace BE := hide (bx_step BE.out hb)
  replace BR := hide (bx_step BR.out hb)
  replace HB := hide (HB.out.trans (hb.mono HB.out.size))
  clear hb
  cases hlg : lg14 p with
  | true =>
    have hcR := BR.out.cell
    have hfR := BR.out.frozen
    go_wp2
    exact ⟨_, res_boolV rfl _ _ R true rfl (BR.out.set _), rfl, HB.out.setCell (p := ⟨R, 0, none⟩) HR.out _⟩
  | false =>
    have LE : Hid (p.code.length ≤ 150 ∧ p.outs.length ≤ 150) := hide (by unfold lg14 at hlg; simp at hlg; omega)
    clear hlg
    have c0 := PX.out.cell0
    have c1 := PX.out.cell1
    have c2 := PX.out.cell2
    have c3 := PX.out.cell3
    go_wp2_with fail
    refine (values_any _ p _ HP.out).mono ?_
    rintro e w4 ⟨hV, hb⟩
    have VR := hide hV
    clear hV c0 c1 c2 c3
    have W34 := hide hb.size
    replace HP := hide (HP.out.below hb)
    replace KC := hide (KC.out.below hb)
    replace PX := hide (PX.out.step hb)
    replace BE := hide (bx_step BE.out hb)
    replace BR := hide (bx_step BR.out hb)
    replace HB := hide (HB.out.trans (hb.mono HB.out.size))
    clear hb
    obtain ⟨l0, ee, la, lc, rfl, HVL⟩ : ∃ (l0 : List Int) (ee : Int) (la : Option Addr) (lc : Nat), e = .returned (.tuple #[.slice la l0.length lc, .int .i64 ee]) ∧ Hid ((rightB p = true → ee = 0 ∧ l0 = vls (tls p p.code.length) ∧ OwnO w4 w3.heap.size (.slice la l0.length lc) l0) ∧ (rightB p = false → ee = 80 ∧ l0 = [])) := by
      have h := VR.out
      unfold ValR at h
      cases hr : rightB p with
      | true =>
        rw [if_pos hr] at h
        obtain ⟨s, rfl, ho⟩ := h
        obtain ⟨a, c, rfl⟩ := own_slice ho
        exact ⟨_, 0, a, c, rfl, hide ⟨fun _ => ⟨rfl, rfl, ho⟩, (fun e => by cases e)⟩⟩
      | false =>
        rw [if_neg (by rw [hr]; decide)] at h
        exact ⟨[], 80, none, 0, h, hide ⟨(fun e => by cases e), fun _ => ⟨rfl, rfl⟩⟩⟩
    clear VR
    have c0 := PX.out.cell0
    have c1 := PX.out.cell1
    have c2 := PX.out.cell2
    have c3 := PX.out.cell3
    go_wp2_with fail
    refine (twice_any _ p _ HP.out ⟨by have := LE.out.1; omega, by have := LE.out.2; omega⟩).mono ?_
    rintro e w5 ⟨hT, hb⟩
    have TR := hide hT
    clear hT c0 c1 c2 c3
    have W35 := hide (W34.out)
    have W45 := hide hb
    replace HVL := hide (And.intro HVL.out.1 HVL.out.2)
    replace HP := hide (HP.out.below hb)
    replace KC := hide (KC.out.below hb)
    replace PX := hide (PX.out.step hb)
    replace BE := hide (bx_step BE.out hb)
    replace BR := hide (bx_step BR.out hb)
    replace HB := hide (HB.out.trans (hb.mono HB.out.size))
    clear hb
    cases hr : rightB p with
    | false =>
      have e1 := TR.out
      unfold TwR at e1
      rw [if_neg (by rw [hr]; decide)] at e1
      obtain ⟨rfl, rfl⟩ := HVL.out.2 hr
      subst e1
      clear TR HVL
      have c0 := PX.out.cell0
      have c1 := PX.out.cell1
      have c2 := PX.out.cell2
      have c3 := PX.out.cell3
      go_wp2_with fail
      refine (rright_any _ p _ HP.out).mono ?_
      rintro e w6 ⟨rfl, hb⟩
      rw [hr]
      clear hr c0 c1 c2 c3
      replace HP := hide (HP.out.below hb)
      replace KC := hide (KC.out.below hb)
      replace PX := hide (PX.out.step hb)
      replace BE := hide (bx_step BE.out hb)
      replace BR := hide (bx_step BR.out hb)
      replace HB := hide (HB.out.trans (hb.mono HB.out.size))
      clear hb
      have hq := eql_tw1
      go_wp2_with fail
      refine (lv_any _).mono ?_
      rintro e w7 ⟨rfl, hb⟩
      clear hq
      replace HP := hide (HP.out.below hb)
      replace KC := hide (KC.out.below hb)
      replace PX := hide (PX.out.step hb)
      replace BE := hide (bx_step BE.out hb)
      replace BR := hide (bx_step BR.out hb)
      replace HB := hide (HB.out.trans (hb.mono HB.out.size))
      clear hb
      go_wp2_with fail
      refine (wpIn_wide (n := 3)).1 ?_
      refine rangeL (by omega) (gf := 26) (lb := #[]) rfl (enters_of Try.func26 (by kernel_rfl) rfl) (tw1_yields 2 w7) (Nat.zero_le _) (Below.refl _ _) (fun _ => rfl)
        (fun _ _ Z => Below w7.heap.size w7 Z) (fun _ _ _ _ => False) (fun _ => below_ownC (Nat.le_refl _) (Nat.le_refl _)) (fun _ _ => ownFrom_pure _ _) (fun L pre U V _ _ q ht => ht.under q (by omega) q.size) (fun V hV _ => hV) (fun _ _ _ => True) (fun _ _ => ownFrom_pure _ _) ?asg ?bd ?dn ?st
      case asg =>
        intro l L pre x W K h1 h2 hI hK
        gi_wp2
        exact hK _ _ (KeepsFrom.refl _ _) (KpL.refl _ _ _ _ _) hI trivial
      case bd => exact fun _ _ _ _ _ _ _ _ _ _ h => h.elim
      case dn =>
        rintro D L xs Z hD hL _ hw hK _
        have HW := hide hw
        have HD := hide hK
        have DW := hide hD
        have DL : Hid (w.heap.size ≤ D) := hide (Nat.le_trans HB.out.size hD)
        clear hw hK hD hL
        simp only [Exit.inBlock, Exit.then]
        refine (by assumption : ∀ a w, Code.wp Try.prog _ _ a w → _) _ _ ?_
        try simp only [List.setIfInBounds_toArray, List.set_cons_succ, List.set_cons_zero]
        have BR2 := hide (bx_step BR.out HW.out)
        have cR := BR2.out.cell
        have fR := BR2.out.frozen
        go_wp2
        exact leavesC (B := w.heap.size) (I := fun (_ : Unit) V => Boxed V R 4 (.bool true) ∧ Below w.heap.size w V) (fun _ X Y row q hg hr => ⟨boxOwn q.1 hg (fun r e => (hr r e).2), below_ownC (Nat.le_refl _) (Nat.le_refl _) () X Y row q.2 hg hr⟩) () (fun V q => ⟨_, res_boolV rfl _ _ R true rfl q.1, rfl, q.2⟩) [D] _ (MarksC.one DL.out ((Below.heap_setCell _ ⟨R, 0, none⟩ _ D (by intro e; have h1 := BR.out.lt; have h2 := DW.out; have e2 : D = R := e; omega)).trans HD.out)) ⟨BR2.out.set _, (HB.out.trans (HW.out.mono HB.out.size)).setCell (p := ⟨R, 0, none⟩) HR.out _⟩
      case st => exact fun _ _ _ _ _ _ _ _ h _ _ => h.elim
    | true =>
      have HRR := hide hr
      obtain ⟨rfl, hl0, hol⟩ := HVL.out.1 hr
      have e1 := TR.out
      unfold TwR at e1
      rw [if_pos hr] at e1
      obtain ⟨bx, qa, qc, ra, rc, rfl, hbx0, hbx, hpg, hia⟩ := e1
      have LW := hide hol
      have BXX := hide hbx
      have HPG := hide hpg
      have HIA := hide hia
      have EL : Hid (∀ k, k < p.code.length → ot l0 k = ((runS p k).val k (cd p.code k)).1) := hide (fun k hk => by rw [hl0]; exact ot_vls p _ k hk)
      have hln : l0.length = p.code.length := by rw [hl0]; simp [vls, tls]
      have LL := hide hln
      rw [hln] at LW ⊢
      replace LW := hide (own_below LW.out W45.out)
      clear TR HVL hl0 hol hbx hpg hia hbx0 hln hr
      have W5 := hide (Nat.le_refl w5.heap.size)
      have c0 := PX.out.cell0
      have c1 := PX.out.cell1
      have c2 := PX.out.cell2
      have c3 := PX.out.cell3
      go_wp2_with fail
      refine (rright_any _ p _ HP.out).mono ?_
      rintro e w6 ⟨rfl, hb⟩
      rw [HRR.out]
      clear c0 c1 c2 c3
      have W56 := hide hb
      replace HP := hide (HP.out.below hb)
      replace KC := hide (KC.out.below hb)
      replace PX := hide (PX.out.step hb)
      replace BE := hide (bx_step BE.out hb)
      replace BR := hide (bx_step BR.out hb)
      replace HB := hide (HB.out.trans (hb.mono HB.out.size))
      clear hb
      have hq := eql_tw2
      go_wp2_with fail
      refine (lv_any _).mono ?_
      rintro e w7 ⟨rfl, hb⟩
      clear hq
      have W57 := hide (W56.out.trans (hb.mono W56.out.size))
      clear W56 W5 W35
      replace HP := hide (HP.out.below hb)
      replace KC := hide (KC.out.below hb)
      replace PX := hide (PX.out.step hb)
      replace BE := hide (bx_step BE.out hb)
      replace BR := hide (bx_step BR.out hb)
      replace HB := hide (HB.out.trans (hb.mono HB.out.size))
      clear hb
      replace LW := hide (own_below LW.out W57.out)
      have YS := hide (tw_yields 2 (by omega) bx w4.heap.size w5.heap.size p qa ra qc rc HRR.out w7 (BXX.out.step W57.out) (HPG.out.below W57.out) (fun i hi => by obtain ⟨b, off, e, h1, h2, h3⟩ := HIA.out i hi; exact ⟨b, off, e, h1, h2, h3.step W57.out⟩) W57.out.size)
      have H57 := hide W57.out.size
      clear BXX HPG HIA W57 W34 W45
      have c0 := PX.out.cell0
      have c1 := PX.out.cell1
      have c2 := PX.out.cell2
      have c3 := PX.out.cell3
      go_wp2_with fail
      refine (rbegin_any _ p _ HP.out HRR.out).mono ?_
      rintro e w8 ⟨⟨S, vh, vk, rfl, hst⟩, hb⟩
      have W78 := hide hb
      have ST := hide hst
      clear c0 c1 c2 c3
      clear hb hst
      have SO := hide (fun k hk => runS_ok HRR.out k hk)
      have MB := hide ((right_parts HRR.out).2.2.2.2.2.2.2)
      go_upto_region 18 with fail
      have al := below_alloc w8 (.cells #[.slice none 0 0] 36)
      have RP : Hid (VS w7 (w8.alloc (.cells #[.slice none 0 0] 36)) S w8.heap.size vh vk (.slice none 0 0) (runS p 0) (twf (tls p 0))) := hide ⟨W78.out.trans (al.mono W78.out.size), ST.out.below al, Boxed.new _ _ _, World.ownsRow_nil _ _ _ _, W78.out.size⟩
      clear al ST W78
      generalize w8.alloc (.cells #[.slice none 0 0] 36) = w9 at *
      generalize w8.heap.size = G at *
      have LN : Hid (p.code.length ≤ 150) := hide LE.out.1
      have c2 := (PX.out.step RP.out.bel).cell2
      go_wp2
      clear c2
      go_loopw [11, 12, 13] (fun kv _ _ wr => ∃ (k : Nat) (vk vt : Value), k ≤ p.code.length ∧ kv = .int .i64 k ∧ VS w7 wr S G vh vk vt (runS p k) (twf (tls p k))) (fun kv _ _ _ => p.code.length - (intOf kv).toNat)
      case atStart => exact ⟨0, _, _, Nat.zero_le _, rfl, RP.out⟩
      case round =>
        clear RP
        obtain ⟨k, vk, vt, hk, rfl, hrp⟩ := hrel
        have RP := hide hrp
        clear hrp
        obtain ⟨wl, hwl⟩ : ∃ wl, wl = wr := ⟨_, rfl⟩
        subst hwl
        have c2 := (PX.out.step RP.out.bel).cell2
        have hln := LN.out
        by_cases hlt : k < p.code.length
        · have HM := hide (MB.out k hlt)
          have HS := hide (SO.out k hk)
          have HKY := hide (runS_ky p k)
          have EU := hide (EL.out k hlt)
          obtain ⟨b1, o1, rfl, hic⟩ := CodeAt.at KC.out hlt
          have HIC := hide hic
          have LB1 := hide (World.block_lt_of_cell? _ _ hic.cell0)
          clear hic
          have EI : Hid (runS p (k + 1) = (runS p k).go k (cd p.code k)) := hide rfl
          have ET := hide (twf_succ p k)
          generalize hs : runS p k = s at *
          generalize hi : cd p.code k = i at *
          clear hs hi
          obtain ⟨op, tq, a, b, c⟩ := i
          obtain ⟨t, rfl⟩ := Int.eq_ofNat_of_zero_le ((may_iff _ _).1 HM.out).2.1.1
          have hx : t < s.held.length := by have h1 := ((may_iff _ _).1 HM.out).2.1; have h2 := HS.out.len; dsimp only at h1; omega
          have HX := hide hx
          clear hx
          have hic := InsC.under HIC.out RP.out.bel LB1.out
          have i0 := hic.cell0
          have i1 := hic.cell1
          have i2 := hic.cell2
          have i3 := hic.cell3
          have i4 := hic.cell4
          dsimp only at i0 i1 i2 i3 i4
          clear hic
          have HSL : Hid (s.held.length ≤ 128) := hide (by have := HS.out.len; have := (right_parts HRR.out).2.2.1; omega)
          go_wp2_with fail
          refine (rreckon_any p k ⟨op, t, a, b, c⟩ _ w7.heap.size S vh vk s RP.out.st HS.out HKY.out HRR.out HM.out (by omega) RP.out.bel.size).mono ?_
          rintro e w10 ⟨rfl, ⟨vk', hst⟩, hsr⟩
          replace RP := hide (RP.out.reck hsr hst)
          clear hst hsr i0 i1 i2 i3 i4 c2
          have HR1 := hide (HS.out.reck HM.out)
          have U2 : Hid ((if op = 1 then (-1 : Int) else (s.val (k : Int) ⟨op, t, a, b, c⟩).2) = (if op = 1 then (-1 : Int) else (s.val (k : Int) ⟨op, t, a, b, c⟩).2) ∧ (op = 1 → (s.val (k : Int) ⟨op, t, a, b, c⟩).2 = k)) := hide ⟨rfl, fun h => val_move h⟩
          generalize hv : (s.val (k : Int) ⟨op, t, a, b, c⟩).1 = u at *
          have HU := hide hv
          clear hv
          generalize (s.val (k : Int) ⟨op, t, a, b, c⟩).2 = f at *
          generalize hu2 : (if op = 1 then (-1 : Int) else f) = u2 at *
          have HU2 := hide hu2
          clear hu2
          have HH := hide (aft_held s k ⟨op, t, a, b, c⟩)
          obtain ⟨va, vcap, hva⟩ := OwnO.val RP.out.st.held
          rw [HH.out] at hva
          subst hva
          obtain ⟨g, hg, r1, hf⟩ := OwnO.atI (k := t) RP.out.st.held (by rw [HH.out]; exact HX.out)
          subst hg
          have c0 := RP.out.st.box.cell0
          have hic := InsC.under HIC.out RP.out.bel LB1.out
          have k1 := hic.cell1
          dsimp only at k1
          clear hic
          have c2 := (PX.out.step RP.out.bel).cell2
          have hT := HX.out
          go_upto_region 22 with fail
          go_region
          have RPZ := hide (RP.out.setH t u).drew
          rw [Int.toNat_natCast] at RPZ
          clear c0 k1 r1 hf RP c2
          generalize (w10.setCell ⟨g, t, none⟩ (.int .i64 u)).drew = wB at *
          obtain ⟨lg, hlg, lcell, _⟩ := OwnO.atI (k := k) (own_below LW.out RPZ.out.bel) (by rw [LL.out]; exact hlt)
          subst hlg
          rw [EU.out] at lcell
          by_cases ho : op = 1
          · have e2 : u2 = -1 := by rw [← HU2.out, if_pos ho]
            have e3 := U2.out.2 ho
            subst e2
            go_wp2
            go_roundw
            case rel =>
              refine ⟨k + 1, vk', vt, by omega, by go_num, ?_⟩
              have hg2 : s.go (k : Int) ⟨op, t, a, b, c⟩ = (s.aft (k : Int) ⟨op, t, a, b, c⟩).set t u := by unfold ShS.go; rw [HU.out]
              rw [EI.out, hg2, ET.out, if_neg (by omega), List.append_nil]
              exact RPZ.out
            case measure => simp [intOf]; omega
          · have e2 : f = u2 := by rw [← HU2.out, if_neg ho]
            subst e2
            have h0 : 0 ≤ f := HR1.out.2.2.1
            by_cases hlf : f < (k : Int)
            · have al := below_alloc wB (.cells #[.int .i64 (k : Int), .int .i64 f] 44)
              have BN : Hid ((wB.alloc (.cells #[.int .i64 (k : Int), .int .i64 f] 44)).heap[wB.heap.size]? = some (.cells #[.int .i64 (k : Int), .int .i64 f] 44 (0, 0))) := hide (heap_alloc_new _ _)
              have RP2 := hide (RPZ.out.below al)
              have g0 := RPZ.out.box.cell
              have g1 := RP2.out.box.cell
              have lt2 := RPZ.out.box.lt
              clear al
              go_wp2_with (at_builtin; refine wpList_op rfl fun K hK => ?_; refine wp_appT _ _ _ rfl w7.heap.size _ (twf (tls p k)) rfl RP2.out.tw _ _ (k, f) rfl BN.out (by have h1 := twf_len (tls p k); rw [tls_length] at h1; omega) RP2.out.bel.size ?_; intro v' w11 hown hgrow; refine hK _ _ ?_; obtain ⟨ta, tc, htv⟩ := own_slice hown; rw [List.length_append, List.length_singleton] at htv; subst htv; have RP3 := hide (RP2.out.app hgrow hown); have BG := hide ((hgrow.block G RP2.out.box.lt (fun e => own_block_ne RP2.out.tw RP2.out.box (by decide) e.symm)).trans RP2.out.box); clear hown hgrow g0 g1 lt2 BN RP2; have g0 := Boxed.cell BG.out; have g1 := Boxed.frozen BG.out)
              go_roundw
              case rel =>
                refine ⟨k + 1, vk', .slice ta ((twf (tls p k)).length + 1) tc, by omega, by go_num, ?_⟩
                have hg2 : s.go (k : Int) ⟨op, t, a, b, c⟩ = (s.aft (k : Int) ⟨op, t, a, b, c⟩).set t u := by unfold ShS.go; rw [HU.out]
                rw [EI.out, hg2, ET.out, if_pos hlf]
                exact RP3.out
              case measure => simp [intOf]; omega
            · go_wp2
              go_roundw
              case rel =>
                refine ⟨k + 1, vk', vt, by omega, by go_num, ?_⟩
                have hg2 : s.go (k : Int) ⟨op, t, a, b, c⟩ = (s.aft (k : Int) ⟨op, t, a, b, c⟩).set t u := by unfold ShS.go; rw [HU.out]
                rw [EI.out, hg2, ET.out, if_neg (by omega), List.append_nil]
                exact RPZ.out
              case measure => simp [intOf]; omega
        · have e : k = p.code.length := by omega
          subst e
          clear hlt hk hln
          obtain ⟨ws, hws⟩ : ∃ ws, ws = twf (tls p p.code.length) := ⟨_, rfl⟩
          rw [← hws] at RP YS
          have WSL : Hid (ws.length ≤ 150) := hide (by have h1 := twf_len (tls p p.code.length); rw [tls_length] at h1; have := LN.out; rw [hws]; omega)
          clear hws
          have TW := hide RP.out.tw
          have BG := hide RP.out.box
          have W7 := hide RP.out.bel
          obtain ⟨ga, gc, hgv⟩ := own_slice RP.out.tw
          subst hgv
          replace BR := hide (bx_step BR.out W7.out)
          replace BE := hide (bx_step BE.out W7.out)
          have HBL := hide (HB.out.trans (W7.out.mono HB.out.size))
          clear RP SO MB EL KC
          have LIM := hide (Nat.le_trans H57.out W7.out.size)
          go_upto_region 28 with fail
          clear c2 PX
          have hb := below_alloc wl (.cells #[.int .i64 0] 3)
          have BD := hide (Boxed.new wl 3 (.int .i64 0))
          have HW := hide hb
          clear hb
          generalize wl.alloc (.cells #[.int .i64 0] 3) = w12 at *
          obtain ⟨D, hD⟩ : ∃ D, D = wl.heap.size := ⟨_, rfl⟩
          have HD : Hid (wl.heap.size ≤ D) := hide (Nat.le_of_eq hD.symm)
          rw [← hD] at BD ⊢
          clear hD
          refine (wpIn_wide (n := 3)).1 ?_
          refine wpIn_loop_ghost (fun k a z => ∃ (rd : Int) (ds : List Nat) (D : Nat) (A : Array Value), rd + k = 2 ∧ 0 ≤ rd ∧ a = { tmps := A, defers := mksC ds } ∧ A.size = 163 ∧ (A.getD 3 undef = .pointer (some ⟨E, 0, none⟩) ∧ A.getD 4 undef = .pointer (some ⟨R, 0, none⟩) ∧ A.getD 7 undef = .func (.func 28) #[] #[.pointer (some ⟨bx, 0, none⟩)] ∧ A.getD 10 undef = .pointer (some ⟨G, 0, none⟩) ∧ A.getD 14 undef = .pointer (some ⟨D, 0, none⟩)) ∧ Below wl.heap.size wl z ∧ Boxed z D 3 (.int .i64 rd) ∧ wl.heap.size ≤ D ∧ MarksC ds wl.heap.size z) 2
            ⟨0, [], D, _, by omega, by omega, rfl, rfl, ⟨rfl, rfl, rfl, rfl, rfl⟩, HW.out, BD.out, HD.out, List.nodup_nil, fun D hD => by cases hD⟩ ?_
          clear BD HD HW
          rintro k a z ⟨rd, ds, D, A, hk, h0, rfl, hsz, ⟨q3, q4, q7, q10, q14⟩, hz, hbd, hgd, hm⟩
          obtain ⟨V, rfl⟩ := arrV A hsz
          replace q3 : V 3 = _ := q3
          replace q4 : V 4 = _ := q4
          replace q7 : V 7 = _ := q7
          replace q10 : V 10 = _ := q10
          replace q14 : V 14 = _ := q14
          rw [q3, q4, q7, q10, q14]
          clear q3 q4 q7 q10 q14 hsz
          have BD := hide hbd
          have HZ := hide hz
          have MM := hide hm
          have GD := hide hgd
          clear hz hbd hgd hm
          by_cases hrd : rd < 2
          · refine wpIn_wide.2 ?_
            have d0 := BD.out.cell
            go_upto_region 31 with fail
            clear d0
            have hb := below_alloc z (.cells #[.int .i64 0] 3)
            have BI := hide (Boxed.new z 3 (.int .i64 0))
            have LD := hide BD.out.lt
            have GZ := hide HZ.out.size
            replace BD := hide (bx_step BD.out hb)
            replace HZ := hide (HZ.out.trans (hb.mono HZ.out.size))
            replace MM := hide (MM.out.below hb)
            clear hb
            generalize z.alloc (.cells #[.int .i64 0] 3) = z1 at *
            obtain ⟨I, hI⟩ : ∃ I, I = z.heap.size := ⟨_, rfl⟩
            have DI : Hid (D < I) := hide (by have := LD.out; omega)
            have GI : Hid (wl.heap.size ≤ I) := hide (by have := GZ.out; omega)
            rw [← hI] at BI ⊢
            clear hI LD GZ
            have LI := hide BI.out.lt
            have MLT := hide MM.out.lt
            have LZ : Hid (w5.heap.size ≤ z1.heap.size) := hide (Nat.le_trans LIM.out HZ.out.size)
            have OWN : Hid (OwnFrom z1.heap.size (fun (_ : Unit) Z => Below wl.heap.size wl Z ∧ Boxed Z D 3 (.int .i64 rd) ∧ MarksC ds wl.heap.size Z)) := hide (fun _ X Y row hs hg hr => ⟨below_ownC HZ.out.size (Nat.le_refl _) () X Y row hs.1 hg hr, boxOwn hs.2.1 hg (fun r e => (hr r e).2), marksC_own MLT.out () X Y row hs.2.2 hg hr⟩)
            go_wp2_with fail
            refine (wpIn_wide (n := 3)).1 ?_
            refine range_tw (ws := ws) (F := fun Z => Below wl.heap.size wl Z ∧ Boxed Z D 3 (.int .i64 rd) ∧ MarksC ds wl.heap.size Z) (e := rd = 0) (stop := stop) (I := I) (by omega) (gf := 28) (lb := #[.pointer (some ⟨bx, 0, none⟩)]) rfl (enters_of Try.func28 (by kernel_rfl) rfl) YS.out LZ.out (W7.out.trans (HZ.out.mono W7.out.size)) (fun _ => rfl) OWN.out
              (fun L U V h1 h2 q ht => ⟨ht.under q.1 (by have := HZ.out.size; omega) q.1.size, (ht.keep D q.2.1.lt (.inl (by have h1 := DI.out; have h2 := LI.out; omega))).trans q.2.1, q.2.2.turn ht (fun E hE => by have := MLT.out E hE; omega)⟩)
              (fun V hV => ⟨HZ.out.trans (hV.mono HZ.out.size), bx_step BD.out hV, MM.out.below hV⟩) BI.out (fun x => { tmps := #[V 0, V 1, V 2, .pointer (some ⟨E, 0, none⟩), .pointer (some ⟨R, 0, none⟩), V 5, V 6, .func (.func 28) #[] #[.pointer (some ⟨bx, 0, none⟩)], V 8, V 9, .pointer (some ⟨G, 0, none⟩), V 11, V 12, V 13, .pointer (some ⟨D, 0, none⟩), .pointer (some ⟨I, 0, none⟩), .int .i64 (x.1 : Nat), .int .i64 x.2, V 18, V 19, V 20, V 21, V 22, V 23, V 24, V 25, V 26, V 27, V 28, V 29, V 30, V 31, V 32, V 33, V 34, V 35, V 36, V 37, V 38, V 39, V 40, V 41, V 42, V 43, V 44, V 45, V 46, V 47, V 48, V 49, V 50, V 51, V 52, V 53, V 54, V 55, V 56, V 57, V 58, V 59, V 60, V 61, V 62, V 63, V 64, V 65, V 66, V 67, V 68, V 69, V 70, V 71, V 72, V 73, V 74, V 75, V 76, V 77, V 78, V 79, V 80, V 81, V 82, V 83, V 84, V 85, V 86, V 87, V 88, V 89, V 90, V 91, V 92, V 93, V 94, V 95, V 96, V 97, V 98, V 99, V 100, V 101, V 102, V 103, V 104, V 105, V 106, V 107, V 108, V 109, .int .i64 rd, .bool true, V 112, V 113, .func (.func 28) #[] #[.pointer (some ⟨bx, 0, none⟩)], .int .i64 (x.1 : Nat), .int .i64 x.2, V 117, V 118, V 119, V 120, V 121, V 122, V 123, V 124, V 125, V 126, V 127, V 128, V 129, V 130, V 131, V 132, V 133, V 134, V 135, V 136, V 137, V 138, V 139, V 140, V 141, V 142, V 143, V 144, V 145, V 146, V 147, V 148, V 149, V 150, V 151, V 152, V 153, V 154, V 155, V 156, V 157, V 158, V 159, V 160, V 161, V 162], defers := [] }) ?asg ?bdy ?nx
            case asg =>
              intro l L pre x W K h1 h2 hI hK
              obtain ⟨x1, x2⟩ := x
              unfold encW
              simp only [List.zip_toArray, List.zip_cons_cons, List.zip_nil_right, List.foldl_toArray', List.size_toArray, List.length_cons, List.length_nil, List.foldl_cons, List.foldl_nil, List.setIfInBounds_toArray, List.set_cons_succ, List.set_cons_zero]
              gi_wp2
              exact hK _ _ (KeepsFrom.refl _ _) (KpL.refl _ _ _ _ _) hI rfl
            case bdy =>
              rintro l L pre x W h1 h2 ⟨⟨f1, f2, f3⟩, hi⟩ hsp
              obtain ⟨hlt, hx⟩ := pre_at hsp
              have F1 := hide f1
              have F2 := hide f2
              have F3 := hide f3
              have HI := hide hi
              have HL := hide (And.intro h1 h2)
              have hcI := hi.cell
              have hfI := hi.frozen
              have hcG := (show Boxed W G 36 _ from (f1.block G BG.out.lt).trans BG.out).cell
              have hcE := (show Boxed W E 3 _ from (f1.block E BE.out.lt).trans BE.out).cell
              have hcD := f2.cell
              obtain ⟨g2, hg2, y0, y1⟩ := OwnT.at (own_below TW.out f1) hlt
              subst hg2
              rw [hx] at y0 y1
              clear hx hsp h1 h2 f1 f2 f3 hi
              obtain ⟨x1, x2⟩ := x
              dsimp only at y0 y1 ⊢
              obtain ⟨m, hm⟩ : ∃ m, m = pre.length := ⟨_, rfl⟩
              have HM := hide hm
              rw [← hm] at hcI y0 y1 hlt
              obtain ⟨nn, hnn⟩ : ∃ nn, nn = ws.length := ⟨_, rfl⟩
              have nb : nn ≤ 150 := by rw [hnn]; exact WSL.out
              rw [← hnn] at hcG hlt
              clear hm hnn
              have nD : D ≠ I := by have := DI.out; omega
              have nE : E ≠ I := by have h1 := BE.out.lt; have h2 := GI.out; omega
              have g0 : ¬ (nn : Int) ≤ (m : Int) := by omega
              have g1 : ¬ nn ≤ m := by omega
              have KEE : Hid (∀ v, KeepsFrom z1.heap.size W (W.setCell ⟨I, 0, none⟩ v)) := hide (fun v => (KeepsOthers.setCell _ _ _).from _)
              have KPE : Hid (∀ v, KpL w4.heap.size w5.heap.size (z1.heap.size + 2) L W (W.setCell ⟨I, 0, none⟩ v)) := hide (fun v => ka_setL W v (by have h1 := GI.out; have h2 := LIM.out; omega) (by have := LI.out; omega))
              have FE : Hid (∀ v, Below wl.heap.size wl (W.setCell ⟨I, 0, none⟩ v) ∧ Boxed (W.setCell ⟨I, 0, none⟩ v) D 3 (.int .i64 rd) ∧ MarksC ds wl.heap.size (W.setCell ⟨I, 0, none⟩ v)) := hide (fun v => ⟨F1.out.setCell (p := ⟨I, 0, none⟩) GI.out _, F2.out.other nD _, F3.out.keeps ((KeepsOthers.setCell _ _ _).from _)⟩)
              by_cases hr0 : rd = 0
              · by_cases hs : (m : Int) + 1 = stop
                · subst hs hr0
                  gi_wp2
                  exact ⟨KEE.out _, rfl, trivial, FE.out _, HI.out.set _⟩
                · have hs' : ((m : Int) + 1 == stop) = false := by simpa using hs
                  subst hr0
                  gi_wp2
                  exact ⟨KEE.out _, KPE.out _, FE.out _, by rw [List.length_append, List.length_singleton, ← HM.out]; exact HI.out.set _⟩
              · have hr1 : rd = 1 := by omega
                subst hr1
                gi_wp2
                exact ⟨KEE.out _, KPE.out _, FE.out _, by rw [List.length_append, List.length_singleton, ← HM.out]; exact HI.out.set _⟩
            case nx =>
              rintro M W v hM hv ⟨f1, f2, f3⟩ hi hK
              have F1 := hide f1
              have F3 := hide (f3.cons (Nat.le_trans HZ.out.size hM) hK (fun E hE => Nat.lt_of_lt_of_le (MLT.out E hE) hM))
              have hcI := hi.cell
              have hcG := (show Boxed W G 36 _ from (f1.block G BG.out.lt).trans BG.out).cell
              have hcE := (show Boxed W E 3 _ from (f1.block E BE.out.lt).trans BE.out).cell
              have hcD := f2.cell
              have HV := hide hv
              have nb : ws.length ≤ 150 := WSL.out
              clear f1 f2 f3 hi hK hv
              obtain ⟨nn, hnn⟩ : ∃ nn, nn = ws.length := ⟨_, rfl⟩
              rw [← hnn] at hcG nb
              by_cases hvn : v = (nn : Int)
              · subst hvn
                clear HV hnn
                rcases (show rd = 0 ∨ rd = 1 from by omega) with rfl | rfl
                · go_wp2
                  have bn := Boxed.new W 3 (.int .i64 1)
                  have hb := below_alloc W (.cells #[.int .i64 1] 3)
                  exact ⟨k - 1, by omega, 1, M :: ds, W.heap.size, _, by omega, by omega, rfl, rfl, ⟨rfl, rfl, rfl, rfl, rfl⟩, F1.out.alloc F1.out.size _, bn, F1.out.size, F3.out.below hb⟩
                · go_wp2
                  have bn := Boxed.new W 3 (.int .i64 2)
                  have hb := below_alloc W (.cells #[.int .i64 2] 3)
                  exact ⟨k - 1, by omega, 2, M :: ds, W.heap.size, _, by omega, by omega, rfl, rfl, ⟨rfl, rfl, rfl, rfl, rfl⟩, F1.out.alloc F1.out.size _, bn, F1.out.size, F3.out.below hb⟩
              · have hvn' : (v != (nn : Int)) = true := by simpa using hvn
                obtain ⟨hr0, hvs⟩ : rd = 0 ∧ v = stop := HV.out.elim (fun h => absurd (by rw [hnn]; exact h) hvn) id
                subst hr0 hvs
                clear HV hnn hvn
                go_wp2
                have bn := Boxed.new W 3 (.int .i64 1)
                have hb := below_alloc W (.cells #[.int .i64 1] 3)
                exact ⟨k - 1, by omega, 1, M :: ds, W.heap.size, _, by omega, by omega, rfl, rfl, ⟨rfl, rfl, rfl, rfl, rfl⟩, F1.out.alloc F1.out.size _, bn, F1.out.size, F3.out.below hb⟩
          · have e : rd = 2 := by omega
            subst e
            refine wpIn_wide.2 ?_
            have d0 := BD.out.cell
            have BR2 : Hid (Boxed z R 4 (.bool false)) := hide ((HZ.out.block R BR.out.lt).trans BR.out)
            have r0 := BR2.out.cell
            have rf := BR2.out.frozen
            go_wp2
            exact leavesC (B := w.heap.size) (I := fun (_ : Unit) V => Boxed V R 4 (.bool true) ∧ Below w.heap.size w V) (fun _ X Y row q hg hr => ⟨boxOwn q.1 hg (fun r e => (hr r e).2), below_ownC (Nat.le_refl _) (Nat.le_refl _) () X Y row q.2 hg hr⟩) () (fun V q => ⟨_, res_boolV rfl _ _ R true rfl q.1, rfl, q.2⟩) ds _ ((MM.out.mono HBL.out.size).keeps ((KeepsOthers.setCell _ _ _).from _)) ⟨BR2.out.set _, (HBL.out.trans (HZ.out.mono HBL.out.size)).setCell (p := ⟨R, 0, none⟩) HR.out _⟩
end Go.Proofs.Ytclopelniopjkaa
