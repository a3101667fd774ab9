/- swagelaw15.DeadPasses answers true at all programs and numbers, and turns nothing that was there. -/
import Derived.Test.YtcciojlbfaanmaaDdWk
import Derived.Test.YtcciojlbfaanmaaDdRa
import Derived.Test.YtcciojlbfaanmaaPgRowW
import Derived.Test.YtcciojlbfaanmaaPgRight
import Derived.Test.YtcciojlbfaanmaaPgRSame
import Derived.Test.YtcciojlbfaanmaaCalmL
import Derived.Lib.SliceRun
namespace Go.Proofs.Ytcciojlbfaanmaa
open Go.RowKit Go.Shelf
attribute [local go_sem] Oper.semAt_some

set_option linter.unusedVariables false
theorem box4_set {w : World} {Q g : Nat} {t e : TypeId} {x y z u : Value} (h : Box4 w Q t x y z u) {cur : Array Value} {f : Nat × Nat} (hg : w.heap[g]? = some (.cells cur e f)) (hne : e ≠ t) (o : Nat) (c : Value) : Box4 (w.setCell ⟨g, o, none⟩ c) Q t x y z u := by
  have : Q ≠ g := by
    intro e1
    subst e1
    rw [show w.heap[Q]? = _ from h] at hg
    simp only [Option.some.injEq, Obj.cells.injEq] at hg
    exact hne hg.2.1.symm
  exact (Below.heap_setCell w ⟨g, o, none⟩ c Q this).trans h
theorem below_setCells {B : Nat} {a : World} (b : Nat) (hb : B ≤ b) : ∀ (l : List Value) (o : Nat) (w : World), Below B a w → Below B a (w.setCells b o l)
  | [], _, _, h => h
  | v :: r, o, w, h => below_setCells b hb r (o + 1) _ (h.setCell (p := ⟨b, o, none⟩) hb v)
theorem clear_none (w : World) (t e ty : TypeId) (ht : Try.prog.underlying t = some (.slice e)) (a : Option Addr) (c : Nat) : (Builtin.clear_ #[t] ty #[.slice a 0 c]).run Try.prog w = .ok (.tuple #[]) w := by
  cases a <;> simp [Builtin.clear_, run_underlying ht]
theorem zero_int (w : World) : (zeroValue 3).run Try.prog w = .ok (.int .i64 0) w := by kernel_rfl
theorem own_lencap {w : World} {base : Nat} {e : TypeId} {size : Nat} {a : Option Addr} {n cap k : Nat} {xs : List Value} (h : w.ownsRow base e size (.slice a n cap) k xs) : n ≤ cap := by
  rcases h.2 with ⟨h0, _⟩ | ⟨g, cap', cur, h0, hg, hh, h1, h2, h3, _⟩
  · simp only [Value.slice.injEq] at h0
    omega
  · simp only [Value.slice.injEq] at h0
    omega
theorem setCells_other (g D : Nat) (h : D ≠ g) : ∀ (l : List Value) (o : Nat) (w : World), (w.setCells g o l).heap[D]? = w.heap[D]?
  | [], _, _ => rfl
  | v :: r, o, w => (setCells_other g D h r (o + 1) _).trans (Below.heap_setCell w ⟨g, o, none⟩ v D h)
def zeD : Pg := ⟨0, 0, [], []⟩
theorem ze_atD (w : World) : PgAt w (.agg #[.int .i64 0, .int .i64 0, .slice none 0 0, .slice none 0 0]) zeD :=
  ⟨none, 0, none, 0, rfl, ⟨none, 0, rfl, Nat.le_refl _, Nat.zero_le _, fun h => absurd rfl h⟩, ⟨none, 0, rfl, Nat.le_refl _, Nat.zero_le _, fun h => absurd rfl h⟩⟩
theorem lg15_fewD {p : Pg} (h : lg15 p = false) (hr : rightB p = true) : p.code.length ≤ 400 := by
  have := (right_parts hr).2.2.2.1
  unfold lg15 at h
  simp at h
  omega
/-- both ways that Pass ends, and both that Asked ends -/
theorem dpass_both {w w' : World} {e : Ending} {p : Pg} (h : DdPassR w w' e p) : ∃ (q : Pg) (qa : Option Addr) (qc : Nat) (ra : Option Addr) (rc : Nat) (ee : Int), e = .returned (.tuple #[.agg #[.int .i64 q.ins, .int .i64 q.regs, .slice qa q.code.length qc, .slice ra q.outs.length rc], .int .i64 ee]) ∧ OwnC w' w.heap.size (.slice qa q.code.length qc) q.code ∧ OwnO w' w.heap.size (.slice ra q.outs.length rc) q.outs ∧ ((rightB p = true ∧ ee = 0 ∧ q = ddP p) ∨ (rightB p = false ∧ ee = 80 ∧ q = zeD)) := by
  unfold DdPassR at h
  cases hr : rightB p with
  | true =>
    rw [hr, if_pos rfl] at h
    obtain ⟨v, rfl, vc, vo, rfl, h1, h2⟩ := h
    obtain ⟨qa, qc, rfl⟩ := own_slice h1
    obtain ⟨ra, rc, rfl⟩ := own_slice h2
    exact ⟨ddP p, qa, qc, ra, rc, 0, rfl, h1, h2, .inl ⟨rfl, rfl, rfl⟩⟩
  | false =>
    rw [hr, if_neg (by decide)] at h
    subst h
    exact ⟨zeD, none, 0, none, 0, 80, rfl, World.ownsRow_nil _ _ _ _, World.ownsRow_nil _ _ _ _, .inr ⟨rfl, rfl, rfl⟩⟩
theorem asked_both {w w' : World} {e : Ending} {p : Pg} (h : AskR w w' e p) : ∃ (la : List Bool) (aa : Option Addr) (ac : Nat) (ff : Int), e = .returned (.tuple #[.slice aa la.length ac, .int .i64 ff]) ∧ OwnB w' w.heap.size (.slice aa la.length ac) la ∧ ((rightB p = true ∧ ff = 0 ∧ la = askd p) ∨ (rightB p = false ∧ ff = 80 ∧ la = [])) := by
  unfold AskR at h
  cases hr : rightB p with
  | true =>
    rw [hr, if_pos rfl] at h
    obtain ⟨g, rfl, h1⟩ := h
    rw [← askd_length p] at h1 ⊢
    exact ⟨askd p, _, _, 0, rfl, h1, .inl ⟨rfl, rfl, rfl⟩⟩
  | false =>
    rw [hr, if_neg (by decide)] at h
    subst h
    exact ⟨[], none, 0, 80, rfl, World.ownsRow_nil _ _ _ _, .inr ⟨rfl, rfl, rfl⟩⟩
theorem idR_wrong {p : Pg} (h : rightB p = false) : nums (ixsK (idR p) (idR p).length) = [] := by
  have e : idR p = [] := by unfold idR; rw [h]; rfl
  rw [e]; rfl
theorem nums_len (l : List Nat) : (nums l).length = l.length := by unfold nums; rw [List.length_map]
/-- what stands while the idle ones are counted -/
def IE (wn : World) (N : Nat) (pre : List Nat) (Z : World) : Prop := Below wn.heap.size wn Z ∧ Boxed Z N 3 (.int .i64 (pre.length : Nat))
theorem IE.own {wn : World} {N C : Nat} (h : wn.heap.size ≤ C) : OwnFrom C (IE wn N) := fun pre X Y row q hg hr =>
  ⟨q.1.grown hg q.1.size (fun r e => Nat.le_trans h (hr r e).1), (hg.block N q.2.lt (fun e => by obtain ⟨_, o, ho, hc⟩ := hr N e.symm; rw [show X.heap[N]? = _ from q.2] at ho; cases ho; cases hc)).trans q.2⟩
def XE (wn : World) (c : Code) (_ : List Nat) (Z : World) : Prop := c = .exit 0 ∧ Below wn.heap.size wn Z
theorem XE.own {wn : World} {C : Nat} (h : wn.heap.size ≤ C) (c : Code) : OwnFrom C (XE wn c) := fun _ _ _ _ q hg hr => ⟨q.1, q.2.grown hg q.2.size (fun r e => Nat.le_trans h (hr r e).1)⟩
def frN (a : Act) (ps : Array Tmp) (x : Nat) : Act := { tmps := ((ps.zip (encI x)).foldl (fun t (p, v) => t.setIfInBounds p v) a.tmps), defers := [] }
set_option maxRecDepth 100000 in
set_option maxHeartbeats 32000000 in
theorem dpasses_walk (v : Value) (p : Pg) (z : Int) (w : World) (h : PgAt w v p) (hl : p.code.length ≤ 3518437208780 ∧ p.outs.length ≤ 17592186043904) :
    Calls Try.prog 6 #[v, .int .i64 z] w fun e w' => e = .returned (.bool true) ∧ Below w.heap.size w w' := by
  have HP := hide h
  have HL := hide hl
  obtain ⟨ca, cc, oa, oc, rfl, hc, ho⟩ := h
  clear hc ho hl
  refine callsC (n := 3) Try.func6 rfl ?_
  simp only [Try.ntmps6, List.size_toArray, List.length_cons, List.length_nil, Nat.reduceAdd, Nat.reduceSub, Array.replicate_succ, Array.replicate_zero, List.push_toArray, List.append_toArray, List.nil_append, List.cons_append]
  go_upto_region 1 with fail
  have b1 := below_alloc w (.cells #[.int .i64 p.ins, .int .i64 p.regs, .slice ca p.code.length cc, .slice oa p.outs.length oc] 25)
  have b2 := below_alloc (w.alloc (.cells #[.int .i64 p.ins, .int .i64 p.regs, .slice ca p.code.length cc, .slice oa p.outs.length oc] 25)) (.cells #[.int .i64 z] 3)
  have PX := hide ((Box4.new w 25 (.int .i64 p.ins) (.int .i64 p.regs) (.slice ca p.code.length cc) (.slice oa p.outs.length oc)).step b2)
  have EX := hide (Boxed.new (w.alloc (.cells #[.int .i64 p.ins, .int .i64 p.regs, .slice ca p.code.length cc, .slice oa p.outs.length oc] 25)) 3 (.int .i64 z))
  rw [World.size_alloc] at EX
  replace HP := hide ((HP.out.below b1).below b2)
  have HB := hide (b1.trans (b2.mono b1.size))
  clear b1 b2
  generalize (w.alloc (.cells #[.int .i64 p.ins, .int .i64 p.regs, .slice ca p.code.length cc, .slice oa p.outs.length oc] 25)).alloc (.cells #[.int .i64 z] 3) = w1 at *
  obtain ⟨B, hBB⟩ : ∃ B, B = w.heap.size := ⟨_, rfl⟩
  obtain ⟨E, hEE⟩ : ∃ E, E = w.heap.size + 1 := ⟨_, rfl⟩
  rw [← hEE] at EX ⊢
  rw [← hBB] at PX ⊢
  clear hBB hEE
  go_wp2_with fail
  refine (dwork_any _).mono ?_
  rintro e w2 ⟨rfl, hb⟩
  replace HP := hide (HP.out.below hb)
  replace PX := hide (PX.out.step hb)
  replace EX := hide (boxed_step EX.out hb)
  replace HB := hide (HB.out.trans (hb.mono HB.out.size))
  clear hb
  have c0 := PX.out.cell0
  have c1 := PX.out.cell1
  have c2 := PX.out.cell2
  have c3 := PX.out.cell3
  go_wp2_with fail
  refine (lg15_any _ p _ HP.out).mono ?_
  rintro e w3 ⟨rfl, hb⟩
  replace HP := hide (HP.out.below hb)
  replace PX := hide (PX.out.step hb)
  replace EX := hide (boxed_step EX.out hb)
  replace HB := hide (HB.out.trans (hb.mono HB.out.size))
  clear hb
  clear c0 c1 c2 c3
  cases hlg : lg15 p with
  | true =>
    go_wp2
    exact ⟨_, results_tmp rfl _ _ _, rfl, HB.out⟩
  | false =>
    have LE := hide (fun hr => lg15_fewD hlg hr)
    clear hlg
    have c0 := PX.out.cell0
    have c1 := PX.out.cell1
    have c2 := PX.out.cell2
    have c3 := PX.out.cell3
    go_wp2_with fail
    refine (rcopy_big _ p _ HP.out ⟨by have := HL.out.1; omega, by have := HL.out.2; omega⟩).mono ?_
    rintro e w4 ⟨⟨vk, rfl, hown⟩, hb⟩
    have hk := hown.at
    obtain ⟨a3, k3, a4, k4, hv, _, _⟩ := id hk
    replace hv : vk = .agg #[.int .i64 p.ins, .int .i64 p.regs, .slice a3 p.code.length k3, .slice a4 p.outs.length k4] := hv
    subst hv
    have HK := hide hk
    clear hown hk
    clear c0 c1 c2 c3
    replace HP := hide (HP.out.below hb)
    replace PX := hide (PX.out.step hb)
    replace EX := hide (boxed_step EX.out hb)
    replace HB := hide (HB.out.trans (hb.mono HB.out.size))
    clear hb
    go_upto_region 6 with fail
    have hb := below_alloc w4 (.cells #[.int .i64 p.ins, .int .i64 p.regs, .slice a3 p.code.length k3, .slice a4 p.outs.length k4] 25)
    have KX : Hid (Box4 (w4.alloc (.cells #[.int .i64 p.ins, .int .i64 p.regs, .slice a3 p.code.length k3, .slice a4 p.outs.length k4] 25)) w4.heap.size 25 (.int .i64 p.ins) (.int .i64 p.regs) (.slice a3 p.code.length k3) (.slice a4 p.outs.length k4)) := hide (Box4.new w4 25 _ _ _ _)
    replace HP := hide (HP.out.below hb)
    replace HK := hide (HK.out.below hb)
    replace PX := hide (PX.out.step hb)
    replace EX := hide (boxed_step EX.out hb)
    replace HB := hide (HB.out.trans (hb.mono HB.out.size))
    clear hb
    generalize w4.alloc (.cells #[.int .i64 p.ins, .int .i64 p.regs, .slice a3 p.code.length k3, .slice a4 p.outs.length k4] 25) = w5 at *
    generalize w4.heap.size = K at *
    have c0 := PX.out.cell0
    have c1 := PX.out.cell1
    have c2 := PX.out.cell2
    have c3 := PX.out.cell3
    go_wp2_with fail
    refine (dpass_any _ p _ HP.out LE.out).mono ?_
    rintro e w6 ⟨hR, hb⟩
    obtain ⟨q, qa, qc, ra, rc, ee, rfl, h1, h2, h3⟩ := dpass_both hR
    have QE := hide h3
    have OC := hide h1
    have OO := hide h2
    have H5 := hide hb
    clear h1 h2 h3 hR hb c0 c1 c2 c3
    go_upto_region 7 with fail
    have hb := below_alloc w6 (.cells #[.int .i64 q.ins, .int .i64 q.regs, .slice qa q.code.length qc, .slice ra q.outs.length rc] 25)
    have QX : Hid (Box4 (w6.alloc (.cells #[.int .i64 q.ins, .int .i64 q.regs, .slice qa q.code.length qc, .slice ra q.outs.length rc] 25)) w6.heap.size 25 (.int .i64 q.ins) (.int .i64 q.regs) (.slice qa q.code.length qc) (.slice ra q.outs.length rc)) := hide (Box4.new w6 25 _ _ _ _)
    replace OC := hide (own_below OC.out hb)
    replace OO := hide (own_below OO.out hb)
    replace H5 := hide (H5.out.trans (hb.mono H5.out.size))
    clear hb
    generalize w6.alloc (.cells #[.int .i64 q.ins, .int .i64 q.regs, .slice qa q.code.length qc, .slice ra q.outs.length rc] 25) = w7 at *
    generalize w6.heap.size = Q at *
    have c0 := (PX.out.step H5.out).cell0
    have c1 := (PX.out.step H5.out).cell1
    have c2 := (PX.out.step H5.out).cell2
    have c3 := (PX.out.step H5.out).cell3
    go_wp2_with fail
    refine (asked_any _ p _ (HP.out.below H5.out) LE.out).mono ?_
    rintro e w8 ⟨hR, hb⟩
    obtain ⟨la, aa, ac, ff, rfl, h1, h3⟩ := asked_both hR
    have AE := hide h3
    have AB := hide h1.bools
    clear h1 h3 hR c0 c1 c2 c3
    replace OC := hide (own_below OC.out hb)
    replace OO := hide (own_below OO.out hb)
    replace QX := hide (QX.out.step hb)
    replace H5 := hide (H5.out.trans (hb.mono H5.out.size))
    clear hb
    go_upto_region 9 with fail
    have NX := hide (Boxed.new w8 3 (.int .i64 0))
    have HN := hide (below_alloc w8 (.cells #[.int .i64 0] 3))
    generalize w8.alloc (.cells #[.int .i64 0] 3) = w9 at *
    obtain ⟨N, hN⟩ : ∃ N, N = w8.heap.size := ⟨_, rfl⟩
    have ZNN := hide hN
    rw [← hN] at NX ⊢
    clear hN
    have c0 := ((PX.out.step H5.out).step HN.out).cell0
    have c1 := ((PX.out.step H5.out).step HN.out).cell1
    have c2 := ((PX.out.step H5.out).step HN.out).cell2
    have c3 := ((PX.out.step H5.out).step HN.out).cell3
    go_wp2_with fail
    refine (idle_any _ p _ ((HP.out.below H5.out).below HN.out) LE.out).mono ?_
    rintro e w10 ⟨⟨bx, vb, rfl, hx1, hbx, hO⟩, hb⟩
    have LI : Hid ((idR p).length ≤ 400) := hide (by unfold idR; split; (rename_i hq; rw [idL_length]; exact LE.out hq); exact Nat.zero_le _)
    have OB := hide hO
    have BX := hide hbx
    have N0 : Hid (IE w8 N [] w10) := hide ⟨HN.out.trans (hb.mono HN.out.size), boxed_step NX.out hb⟩
    have SZ := hide (And.intro HN.out.size hb.size)
    have NL := hide NX.out.lt
    clear hO hbx hx1 hb NX HN c0 c1 c2 c3
    have EX2 := hide (show Boxed w8 E 3 (.int .i64 z) from boxed_step EX.out H5.out)
    go_wp2_with fail
    refine (wpIn_wide (n := 3)).1 ?_
    refine rangeP frN (by omega) (gf := 50) (lb := #[.pointer (some ⟨bx, 0, none⟩)]) rfl (enters_of Try.func50 (by kernel_rfl) rfl) (idl_yields 2 (by omega) bx w9.heap.size w10.heap.size w9.heap.size vb (idR p) (by have := LI.out; omega) w10 OB.out (Nat.le_refl _) rfl BX.out.cell) rfl (fun h k => Keeps.trans h k) (fun W o hs k _ h2 => by rw [World.putObj_heap_other (by omega)]) (Below.refl _ _) (fun _ => rfl) (IE w8 N) (XE w8) (IE.own (Nat.le_trans SZ.out.1 SZ.out.2)) (XE.own (Nat.le_trans SZ.out.1 SZ.out.2)) N0.out ?asg ?bd ?dn ?st
    case asg =>
      intro l pre x W K hI hK
      unfold encI
      simp only [List.zip_toArray, List.zip_cons_cons, List.zip_nil_right, List.foldl_toArray', List.size_toArray, List.length_cons, List.length_nil, List.foldl_cons, List.foldl_nil, List.setIfInBounds_toArray, List.set_cons_succ, List.set_cons_zero]
      gi_wp2
      exact hK _ _ (KeepsFrom.refl _ _) (Keeps.refl _ _ _) hI (by simp only [frN, encI, List.zip_toArray, List.zip_cons_cons, List.zip_nil_right, List.foldl_toArray', List.size_toArray, List.length_cons, List.length_nil, List.foldl_cons, List.foldl_nil, List.setIfInBounds_toArray, List.set_cons_succ, List.set_cons_zero])
    case bd =>
      rintro l pre x W ⟨hw, hn⟩ hsp
      have NX := hide hn
      have HW := hide hw
      have LN : Hid (pre.length ≤ 400) := hide (by have h1 := hsp.length_le; have h2 := ixsK_len (idR p) (idR p).length; have h3 := LI.out; rw [List.length_append, List.length_singleton] at h1; omega)
      clear hn hw hsp
      unfold frN encI
      simp only [List.zip_toArray, List.zip_cons_cons, List.zip_nil_right, List.foldl_toArray', List.size_toArray, List.length_cons, List.length_nil, List.foldl_cons, List.foldl_nil, List.setIfInBounds_toArray, List.set_cons_succ, List.set_cons_zero]
      have cn := NX.out.cell
      have fn := NX.out.frozen
      have ce := (boxed_step EX2.out HW.out).cell
      by_cases hz : (pre.length : Int) = z
      · subst hz
        gi_wp2
        exact ⟨KeepsFrom.refl _ _, rfl, HW.out⟩
      · have hz' : ((pre.length : Int) == z) = false := by simpa using hz
        have N9 := hide (NX.out.set (.int .i64 ((pre.length + 1 : Nat) : Int)))
        have W9 := hide (HW.out.setCell (p := ⟨N, 0, none⟩) (by have := ZNN.out; show w8.heap.size ≤ N; omega) (.int .i64 ((pre.length + 1 : Nat) : Int)))
        have lnn := LN.out
        gi_wp2
        have hcast : ((pre.length : Int) + 1) = ((pre.length + 1 : Nat) : Int) := by omega
        try rw [hcast]
        exact ⟨(KeepsOthers.setCell W ⟨N, 0, none⟩ (.int .i64 ((pre.length + 1 : Nat) : Int))).from _, keeps_set W _ (by have := NL.out; omega), W9.out, by rw [List.length_append, List.length_singleton]; exact N9.out⟩
    case dn =>
      rintro D xs Z hD hxs ⟨hw, _⟩ hK
      have HW := hide hw
      have HD := hide hK
      have DL : Hid (w.heap.size ≤ D) := hide (by have h1 := HB.out.size; have h2 := H5.out.size; have h3 := SZ.out; omega)
      clear hxs hw hK hD EX EX2 OB BX N0 NL
      simp only [Exit.inBlock, Exit.then]
      refine (by assumption : ∀ a w, Code.wp Try.prog _ _ a w → _) _ _ ?_
      try simp only [List.setIfInBounds_toArray, List.set_cons_succ, List.set_cons_zero]
      have c0 := ((PX.out.step H5.out).step HW.out).cell0
      have c1 := ((PX.out.step H5.out).step HW.out).cell1
      have c2 := ((PX.out.step H5.out).step HW.out).cell2
      have c3 := ((PX.out.step H5.out).step HW.out).cell3
      go_wp2_with fail
      refine (lidle_any _ p _ ((HP.out.below H5.out).below HW.out) LE.out).mono ?_
      rintro e u1 ⟨⟨vo, rfl, hvo⟩, hb⟩
      obtain ⟨na, nc, hna⟩ := own_slice hvo
      obtain ⟨n1, hn1⟩ : ∃ n1, n1 = (nums (ixsK (idR p) (idR p).length)).length := ⟨_, rfl⟩
      rw [← hn1] at hna
      subst hna
      have LO := hide (OwnO.at hvo)
      skip
      have EN := hide hn1
      clear hvo hn1 c0 c1 c2 c3
      replace HD := hide ((hb.block D (Array.getElem?_eq_some_iff.1 HD.out).1).trans HD.out)
      replace HW := hide (HW.out.trans (hb.mono HW.out.size))
      clear hb
      have c0 := ((PX.out.step H5.out).step HW.out).cell0
      have c1 := ((PX.out.step H5.out).step HW.out).cell1
      have c2 := ((PX.out.step H5.out).step HW.out).cell2
      have c3 := ((PX.out.step H5.out).step HW.out).cell3
      have d0 := ((KX.out.step H5.out).step HW.out).cell0
      have d1 := ((KX.out.step H5.out).step HW.out).cell1
      have d2 := ((KX.out.step H5.out).step HW.out).cell2
      have d3 := ((KX.out.step H5.out).step HW.out).cell3
      go_wp2_with fail
      refine (rsame_any _ _ p p _ ((HK.out.below H5.out).below HW.out) ((HP.out.below H5.out).below HW.out)).mono ?_
      rintro e u2 ⟨rfl, hb⟩
      rw [eqB_yes rfl]
      replace LO := hide (LO.out.below hb)
      clear c0 c1 c2 c3 d0 d1 d2 d3
      replace HD := hide ((hb.block D (Array.getElem?_eq_some_iff.1 HD.out).1).trans HD.out)
      replace HW := hide (HW.out.trans (hb.mono HW.out.size))
      clear hb
      have c0 := ((PX.out.step H5.out).step HW.out).cell0
      have c1 := ((PX.out.step H5.out).step HW.out).cell1
      have c2 := ((PX.out.step H5.out).step HW.out).cell2
      have c3 := ((PX.out.step H5.out).step HW.out).cell3
      go_wp2_with fail
      refine (rright_any _ p _ ((HP.out.below H5.out).below HW.out)).mono ?_
      rintro e u3 ⟨rfl, hb⟩
      replace LO := hide (LO.out.below hb)
      clear c0 c1 c2 c3
      replace HD := hide ((hb.block D (Array.getElem?_eq_some_iff.1 HD.out).1).trans HD.out)
      replace HW := hide (HW.out.trans (hb.mono HW.out.size))
      clear hb
      cases hr : rightB p with
      | false =>
        have hq : ee = 80 ∧ q = zeD := by rcases QE.out with ⟨h, _⟩ | ⟨_, h1, h2⟩; (rw [hr] at h; cases h); exact ⟨h1, h2⟩
        have ha : ff = 80 ∧ la = [] := by rcases AE.out with ⟨h, _⟩ | ⟨_, h1, h2⟩; (rw [hr] at h; cases h); exact ⟨h1, h2⟩
        obtain ⟨rfl, rfl⟩ := hq
        obtain ⟨rfl, rfl⟩ := ha
        have hn0 : n1 = 0 := by rw [EN.out, idR_wrong hr]; rfl
        subst hn0
        have g0 := (QX.out.step HW.out).cell0
        have g1 := (QX.out.step HW.out).cell1
        have g2 := (QX.out.step HW.out).cell2
        have g3 := (QX.out.step HW.out).cell3
        go_wp2_with fail
        refine (rsame_any _ _ zeD zeD _ (OwnPg.at (p := zeD) ⟨_, _, rfl, own_below OC.out HW.out, own_below OO.out HW.out⟩) (ze_atD _)).mono ?_
        rintro e u4 ⟨rfl, hb⟩
        rw [eqB_yes rfl]
        clear g0 g1 g2 g3
        replace HD := hide ((hb.block D (Array.getElem?_eq_some_iff.1 HD.out).1).trans HD.out)
        replace HW := hide (HW.out.trans (hb.mono HW.out.size))
        clear hb
        go_wp2
        exact leavesC (B := w.heap.size) (I := fun (_ : Unit) V => Below w.heap.size w V) (below_ownC (Nat.le_refl _) (Nat.le_refl _)) () (fun V q => ⟨_, results_tmp rfl _ _ _, by first | rfl | simp, q⟩) [D] _ (MarksC.one DL.out HD.out) (HB.out.trans ((H5.out.trans (HW.out.mono H5.out.size)).mono HB.out.size))
      | true =>
        have hq : ee = 0 ∧ q = ddP p := by rcases QE.out with ⟨_, h1, h2⟩ | ⟨h, _⟩; exact ⟨h1, h2⟩; (rw [hr] at h; cases h)
        have ha : ff = 0 ∧ la = askd p := by rcases AE.out with ⟨_, h1, h2⟩ | ⟨h, _⟩; exact ⟨h1, h2⟩; (rw [hr] at h; cases h)
        obtain ⟨rfl, hqd⟩ := hq
        obtain ⟨rfl, hla⟩ := ha
        have HQD := hide hqd
        have HLA := hide hla
        have RP := hide hr
        have LP := hide (LE.out hr)
        have LQ : Hid (q.code.length ≤ 400) := hide (by rw [hqd]; exact Nat.le_trans (stay_length _ _) (LE.out hr))
        have EI : Hid (idR p = idL p) := hide (by unfold idR; rw [hr]; rfl)
        clear hqd hla hr QE AE
        have c0 := ((PX.out.step H5.out).step HW.out).cell0
        have c1 := ((PX.out.step H5.out).step HW.out).cell1
        have c2 := ((PX.out.step H5.out).step HW.out).cell2
        have c3 := ((PX.out.step H5.out).step HW.out).cell3
        go_wp2_with fail
        refine (ridle_any _ p _ ((HP.out.below H5.out).below HW.out) RP.out).mono ?_
        rintro e u4 ⟨⟨vi, rfl, hvi⟩, hb⟩
        obtain ⟨ia, ic, hia⟩ := own_slice hvi
        have IB := hide hvi.bools
        subst hia
        replace LO := hide (LO.out.below hb)
        clear hvi c0 c1 c2 c3
        replace HD := hide ((hb.block D (Array.getElem?_eq_some_iff.1 HD.out).1).trans HD.out)
        replace HW := hide (HW.out.trans (hb.mono HW.out.size))
        clear hb
        obtain ⟨n2, hn2⟩ : ∃ n2, n2 = (idL p).length := ⟨_, rfl⟩
        rw [← hn2] at IB ⊢
        have N2 := hide hn2
        have hn4 : n2 ≤ 400 := by rw [hn2, idL_length]; exact LP.out
        clear hn2
        obtain ⟨uq, huq⟩ : ∃ uq, uq = u4 := ⟨_, rfl⟩
        have WQ : Hid (Below uq.heap.size uq u4) := hide (by rw [huq]; exact Below.refl _ _)
        skip
        have IBQ : Hid (BoolsAt uq (.slice ia n2 ic) (idL p)) := hide (by rw [huq]; exact IB.out)
        have HWQ : Hid (Below w8.heap.size w8 uq) := hide (by rw [huq]; exact HW.out)
        have LOQ : Hid (IntsAt uq (.slice na n1 nc) (nums (ixsK (idR p) (idR p).length))) := hide (by rw [huq]; exact LO.out)
        have HDQ : Hid (uq.heap[D]? = some (.deferred (some []))) := hide (by rw [huq]; exact HD.out)
        clear huq IB LO HW HD
        go_wp2
        go_loopw [73, 12, 13, 14] (fun kv ov _ _ wr => ∃ k : Nat, k ≤ n2 ∧ kv = .int .i64 (k : Nat) ∧ Below uq.heap.size uq wr ∧ OwnO wr uq.heap.size ov (nums (ixsK (idL p) k))) (fun kv _ _ _ _ => n2 - (intOf kv).toNat)
        case atStart => exact ⟨0, Nat.zero_le _, rfl, WQ.out, World.ownsRow_nil _ _ _ _⟩
        case round =>
          clear WQ
          obtain ⟨k, hk, rfl, hbl, ho⟩ := hrel
          have WB := hide hbl
          have OB2 := hide ho
          clear hbl ho
          obtain ⟨wl, hwl⟩ : ∃ wl, wl = wr := ⟨_, rfl⟩
          subst hwl
          by_cases hlt : k < n2
          · obtain ⟨b1, o1, rfl, hcell⟩ := (IBQ.out.below WB.out).at (k := k) (by have := N2.out; omega)
            have EK := hide (ixsK_succ (idL p) k)
            have hkl := ixsK_len (idL p) k
            cases hb : bl (idL p) k with
            | false =>
              rw [hb] at hcell EK
              go_wp2
              go_roundw
              case rel => exact ⟨k + 1, by omega, by go_num, WB.out, by rw [EK.out, if_neg (by decide)]; exact OB2.out⟩
              case measure => simp [intOf]; omega
            | true =>
              rw [hb] at hcell EK
              have al := below_alloc wl (.cells #[.int .i64 (k : Int)] 3)
              have BO := hide (int1 wl (k : Int) rfl)
              have OB3 := hide (own_below OB2.out al)
              have WB2 := hide (WB.out.trans (al.mono WB.out.size))
              clear al
              go_wp2_with (at_builtin; refine wpList_op rfl fun K hK => ?_; refine wp_appO _ _ rfl uq.heap.size _ (nums (ixsK (idL p) k)) rfl OB3.out _ [(k : Int)] rfl BO.out (by rw [nums_len, List.length_singleton]; omega) WB2.out.size ?_; intro v' w9' hown hgrow; refine hK _ _ ?_)
              have WB3 := hide (WB2.out.grown hgrow WB2.out.size (fun g hg => (World.ownsRow.lt OB3.out g hg).1))
              rw [show nums (ixsK (idL p) k) ++ [(k : Int)] = nums (ixsK (idL p) (k + 1)) from by rw [EK.out, if_pos rfl, nums_app]] at hown
              have O9 := hide hown
              clear hown hgrow hcell OB2 OB3 BO
              go_wp2
              go_roundw
              case rel => exact ⟨k + 1, by omega, by go_num, WB3.out, O9.out⟩
              case measure => simp [intOf]; omega
          · have e : k = n2 := by omega
            subst e
            obtain ⟨wa, wc, hwa⟩ := own_slice OB2.out
            obtain ⟨n3, hn3⟩ : ∃ n3, n3 = (nums (ixsK (idL p) k)).length := ⟨_, rfl⟩
            rw [← hn3] at hwa
            subst hwa
            have WO := hide (OwnO.at OB2.out)
            have HW := hide (HWQ.out.trans (WB.out.mono HWQ.out.size))
            have LO := hide (LOQ.out.below WB.out)
            have HD := hide ((WB.out.block D (Array.getElem?_eq_some_iff.1 HDQ.out).1).trans HDQ.out)
            have EW : Hid (nums (ixsK (idR p) (idR p).length) = nums (ixsK (idL p) k)) := hide (by rw [EI.out, ← N2.out])
            clear OB2 hn3 WB HWQ LOQ HDQ IBQ
            obtain ⟨wy, hwy⟩ : ∃ wy, wy = wl := ⟨_, rfl⟩
            subst hwy
            go_upto_region 24 with fail
            refine wp_calm (fun w' => Below wy.heap.size wy w') (fun _ => true) 26 #[false, false, false, false, false, false, false, false, false, false, false, false, false, false, false, false, false, false, false, false, false, false, false, false, false, false] (by kernel_rfl) rfl rfl ?_
            have HF := hide ((Below.refl wy.heap.size wy).drew)
            generalize wy.drew = wyd at *
            refine Calm.takeL 26 (i := 0) (v := ?_) (a' := ?_) (l' := #[true, false, false, false, false, false, false, false, false, false, false, false, false, false, false, false, false, false, false, false, false, false, false, false, false, false]) (d := some 84) (by kernel_rfl) rfl (by kernel_rfl) (by kernel_rfl) (by kernel_rfl) (by kernel_rfl) (fun _ _ _ h => h) HF.out rfl ?_ rfl rfl ?_ ?_
            rotate_left
            · intro w' hF; clear hF; go_simp; try rfl
            rotate_left
            · simp only [Act.put]; exact rfl
            refine Calm.takeL 26 (i := 1) (v := ?_) (a' := ?_) (l' := #[true, true, false, false, false, false, false, false, false, false, false, false, false, false, false, false, false, false, false, false, false, false, false, false, false, false]) (d := some 85) (by kernel_rfl) rfl (by kernel_rfl) (by kernel_rfl) (by kernel_rfl) (by kernel_rfl) (fun _ _ _ h => h) HF.out rfl ?_ rfl rfl ?_ ?_
            rotate_left
            · intro w' hF; clear hF; go_simp; try rfl
            rotate_left
            · simp only [Act.put]; exact rfl
            refine Calm.takeL 26 (i := 2) (v := ?_) (a' := ?_) (l' := #[true, true, true, false, false, false, false, false, false, false, false, false, false, false, false, false, false, false, false, false, false, false, false, false, false, false]) (d := some 86) (by kernel_rfl) rfl (by kernel_rfl) (by kernel_rfl) (by kernel_rfl) (by kernel_rfl) (fun _ _ _ h => h) HF.out rfl ?_ rfl rfl ?_ ?_
            rotate_left
            · intro w' hF; clear hF; go_simp; try rfl
            rotate_left
            · simp only [Act.put]; exact rfl
            refine Calm.takeL 26 (i := 3) (v := ?_) (a' := ?_) (l' := #[true, true, true, true, false, false, false, false, false, false, false, false, false, false, false, false, false, false, false, false, false, false, false, false, false, false]) (d := some 87) (by kernel_rfl) rfl (by kernel_rfl) (by kernel_rfl) (by kernel_rfl) (by kernel_rfl) (fun _ _ _ h => h) HF.out (by kernel_rfl) ?_ rfl rfl ?_ ?_
            rotate_left
            · intro w' hF; clear hF; go_simp; try rfl
            rotate_left
            · simp only [Act.put]; exact rfl
            refine Calm.takeL 26 (i := 4) (v := ?_) (a' := ?_) (l' := #[true, true, true, true, true, false, false, false, false, false, false, false, false, false, false, false, false, false, false, false, false, false, false, false, false, false]) (d := some 88) (by kernel_rfl) rfl (by kernel_rfl) (by kernel_rfl) (by kernel_rfl) (by kernel_rfl) (fun _ _ _ h => h) HF.out (by kernel_rfl) ?_ rfl rfl ?_ ?_
            rotate_left
            · intro w' hF; clear hF; go_simp; try rfl
            rotate_left
            · simp only [Act.put]; exact rfl
            refine Calm.takeL 26 (i := 5) (v := ?_) (a' := ?_) (l' := #[true, true, true, true, true, true, false, false, false, false, false, false, false, false, false, false, false, false, false, false, false, false, false, false, false, false]) (d := some 89) (by kernel_rfl) rfl (by kernel_rfl) (by kernel_rfl) (by kernel_rfl) (by kernel_rfl) (fun _ _ _ h => h) HF.out rfl ?_ rfl rfl ?_ ?_
            rotate_left
            · intro w' hF; clear hF; go_simp; try rfl
            rotate_left
            · simp only [Act.put]; exact rfl
            refine Calm.takeL 26 (i := 6) (v := ?_) (a' := ?_) (l' := #[true, true, true, true, true, true, true, false, false, false, false, false, false, false, false, false, false, false, false, false, false, false, false, false, false, false]) (d := some 90) (by kernel_rfl) rfl (by kernel_rfl) (by kernel_rfl) (by kernel_rfl) (by kernel_rfl) (fun _ _ _ h => h) HF.out rfl ?_ rfl rfl ?_ ?_
            rotate_left
            · intro w' hF; clear hF; go_simp; try rfl
            rotate_left
            · simp only [Act.put]; exact rfl
            refine Calm.takeL 26 (i := 7) (v := ?_) (a' := ?_) (l' := #[true, true, true, true, true, true, true, true, false, false, false, false, false, false, false, false, false, false, false, false, false, false, false, false, false, false]) (d := some 91) (by kernel_rfl) rfl (by kernel_rfl) (by kernel_rfl) (by kernel_rfl) (by kernel_rfl) (fun _ _ _ h => h) HF.out (by kernel_rfl) ?_ rfl rfl ?_ ?_
            rotate_left
            · intro w' hF; have e0 := (((PX.out.step H5.out).step HW.out).step hF).cell0; have e1 := (((PX.out.step H5.out).step HW.out).step hF).cell1; have e2 := (((PX.out.step H5.out).step HW.out).step hF).cell2; have e3 := (((PX.out.step H5.out).step HW.out).step hF).cell3; have g0 := ((QX.out.step HW.out).step hF).cell0; have g1 := ((QX.out.step HW.out).step hF).cell1; have g2 := ((QX.out.step HW.out).step hF).cell2; have g3 := ((QX.out.step HW.out).step hF).cell3; clear hF; go_simp; try rfl
            rotate_left
            · simp only [Act.put]; exact rfl
            refine Calm.takeL 26 (i := 8) (v := ?_) (a' := ?_) (l' := #[true, true, true, true, true, true, true, true, true, false, false, false, false, false, false, false, false, false, false, false, false, false, false, false, false, false]) (d := some 92) (by kernel_rfl) rfl (by kernel_rfl) (by kernel_rfl) (by kernel_rfl) (by kernel_rfl) (fun _ _ _ h => h) HF.out (by kernel_rfl) ?_ rfl rfl ?_ ?_
            rotate_left
            · intro w' hF; have e0 := (((PX.out.step H5.out).step HW.out).step hF).cell0; have e1 := (((PX.out.step H5.out).step HW.out).step hF).cell1; have e2 := (((PX.out.step H5.out).step HW.out).step hF).cell2; have e3 := (((PX.out.step H5.out).step HW.out).step hF).cell3; have g0 := ((QX.out.step HW.out).step hF).cell0; have g1 := ((QX.out.step HW.out).step hF).cell1; have g2 := ((QX.out.step HW.out).step hF).cell2; have g3 := ((QX.out.step HW.out).step hF).cell3; clear hF; go_simp; try rfl
            rotate_left
            · simp only [Act.put]; exact rfl
            refine Calm.one (i := 9) (l' := #[true, true, true, true, true, true, true, true, true, true, false, false, false, false, false, false, false, false, false, false, false, false, false, false, false, false]) (by kernel_rfl) rfl (by kernel_rfl) rfl fun K hK => ?_
            go_simp
            refine (rdpass_any _ p _ (((HP.out.below H5.out).below HW.out).below HF.out) RP.out).mono ?_
            rintro e x1 ⟨⟨vr, rfl, hown⟩, hb⟩
            rw [← HQD.out] at hown
            have HR := hide hown.at
            clear hown
            have HF' := hide (HF.out.trans ((hb).mono HF.out.size))
            refine hK _ _ (fun _ => HF'.out) ?_
            clear hK K HF hb
            have HF := hide HF'.out
            clear HF'
            refine Calm.one (i := 10) (l' := #[true, true, true, true, true, true, true, true, true, true, true, false, false, false, false, false, false, false, false, false, false, false, false, false, false, false]) (by kernel_rfl) rfl (by kernel_rfl) rfl fun K hK => ?_
            go_simp
            refine (rsame_any _ _ q q _ ((OwnPg.at (p := q) ⟨_, _, rfl, own_below OC.out HW.out, own_below OO.out HW.out⟩).below HF.out) HR.out).mono ?_
            rintro e x2 ⟨rfl, hb⟩
            rw [eqB_yes rfl]
            have HF' := hide (HF.out.trans ((hb).mono HF.out.size))
            refine hK _ _ (fun _ => HF'.out) ?_
            clear hK K HF hb HR
            have HF := hide HF'.out
            clear HF'
            refine Calm.takeL 26 (i := 11) (v := ?_) (a' := ?_) (l' := #[true, true, true, true, true, true, true, true, true, true, true, true, false, false, false, false, false, false, false, false, false, false, false, false, false, false]) (d := some 95) (by kernel_rfl) rfl (by kernel_rfl) (by kernel_rfl) (by kernel_rfl) (by kernel_rfl) (fun _ _ _ h => h) HF.out (by kernel_rfl) ?_ rfl rfl ?_ ?_
            rotate_left
            · intro w' hF; clear hF; go_simp; try rfl
            rotate_left
            · simp only [Act.put]; exact rfl
            refine Calm.takeL 26 (i := 12) (v := ?_) (a' := ?_) (l' := #[true, true, true, true, true, true, true, true, true, true, true, true, true, false, false, false, false, false, false, false, false, false, false, false, false, false]) (d := some 96) (by kernel_rfl) rfl (by kernel_rfl) (by kernel_rfl) (by kernel_rfl) (by kernel_rfl) (fun _ _ _ h => h) HF.out rfl ?_ rfl rfl ?_ ?_
            rotate_left
            · intro w' hF; clear hF; go_simp; try rfl
            rotate_left
            · simp only [Act.put]; exact rfl
            refine Calm.takeL 26 (i := 13) (v := ?_) (a' := ?_) (l' := #[true, true, true, true, true, true, true, true, true, true, true, true, true, true, false, false, false, false, false, false, false, false, false, false, false, false]) (d := some 97) (by kernel_rfl) rfl (by kernel_rfl) (by kernel_rfl) (by kernel_rfl) (by kernel_rfl) (fun _ _ _ h => h) HF.out rfl ?_ rfl rfl ?_ ?_
            rotate_left
            · intro w' hF; clear hF; go_simp; try rfl
            rotate_left
            · simp only [Act.put]; exact rfl
            refine Calm.takeL 26 (i := 14) (v := ?_) (a' := ?_) (l' := #[true, true, true, true, true, true, true, true, true, true, true, true, true, true, true, false, false, false, false, false, false, false, false, false, false, false]) (d := some 98) (by kernel_rfl) rfl (by kernel_rfl) (by kernel_rfl) (by kernel_rfl) (by kernel_rfl) (fun _ _ _ h => h) HF.out (by kernel_rfl) ?_ rfl rfl ?_ ?_
            rotate_left
            · intro w' hF; clear hF; go_simp; try rfl
            rotate_left
            · simp only [Act.put]; exact rfl
            refine Calm.takeL 26 (i := 15) (v := ?_) (a' := ?_) (l' := #[true, true, true, true, true, true, true, true, true, true, true, true, true, true, true, true, false, false, false, false, false, false, false, false, false, false]) (d := some 99) (by kernel_rfl) rfl (by kernel_rfl) (by kernel_rfl) (by kernel_rfl) (by kernel_rfl) (fun _ _ _ h => h) HF.out (by kernel_rfl) ?_ rfl rfl ?_ ?_
            rotate_left
            · intro w' hF; have e0 := (((PX.out.step H5.out).step HW.out).step hF).cell0; have e1 := (((PX.out.step H5.out).step HW.out).step hF).cell1; have e2 := (((PX.out.step H5.out).step HW.out).step hF).cell2; have e3 := (((PX.out.step H5.out).step HW.out).step hF).cell3; have g0 := ((QX.out.step HW.out).step hF).cell0; have g1 := ((QX.out.step HW.out).step hF).cell1; have g2 := ((QX.out.step HW.out).step hF).cell2; have g3 := ((QX.out.step HW.out).step hF).cell3; clear hF; go_simp; try rfl
            rotate_left
            · simp only [Act.put]; exact rfl
            refine Calm.one (i := 16) (l' := #[true, true, true, true, true, true, true, true, true, true, true, true, true, true, true, true, true, false, false, false, false, false, false, false, false, false]) (by kernel_rfl) rfl (by kernel_rfl) rfl fun K hK => ?_
            go_simp
            refine (rasked_any _ p _ (((HP.out.below H5.out).below HW.out).below HF.out) RP.out).mono ?_
            rintro e x3 ⟨⟨gg, rfl, hoa⟩, hb⟩
            have RB := hide hoa.bools
            rw [← HLA.out] at RB
            clear hoa
            have HF' := hide (HF.out.trans ((hb).mono HF.out.size))
            refine hK _ _ (fun _ => HF'.out) ?_
            clear hK K HF hb
            have HF := hide HF'.out
            clear HF'
            refine Calm.one (i := 17) (l' := #[true, true, true, true, true, true, true, true, true, true, true, true, true, true, true, true, true, true, false, false, false, false, false, false, false, false]) (by kernel_rfl) rfl (by kernel_rfl) rfl fun K hK => ?_
            go_simp
            refine (eqbl_any _ _ la la _ ((AB.out.below HW.out).below HF.out) RB.out).mono ?_
            rintro e x4 ⟨rfl, hb⟩
            rw [eqB_yes rfl]
            have HF' := hide (HF.out.trans ((hb).mono HF.out.size))
            refine hK _ _ (fun _ => HF'.out) ?_
            clear hK K HF hb RB
            have HF := hide HF'.out
            clear HF'
            refine Calm.takeL 26 (i := 18) (v := ?_) (a' := ?_) (l' := #[true, true, true, true, true, true, true, true, true, true, true, true, true, true, true, true, true, true, true, false, false, false, false, false, false, false]) (d := some 102) (by kernel_rfl) rfl (by kernel_rfl) (by kernel_rfl) (by kernel_rfl) (by kernel_rfl) (fun _ _ _ h => h) HF.out (by kernel_rfl) ?_ rfl rfl ?_ ?_
            rotate_left
            · intro w' hF; clear hF; go_simp; try rfl
            rotate_left
            · simp only [Act.put]; exact rfl
            refine Calm.takeL 26 (i := 19) (v := ?_) (a' := ?_) (l' := #[true, true, true, true, true, true, true, true, true, true, true, true, true, true, true, true, true, true, true, true, false, false, false, false, false, false]) (d := some 103) (by kernel_rfl) rfl (by kernel_rfl) (by kernel_rfl) (by kernel_rfl) (by kernel_rfl) (fun _ _ _ h => h) HF.out rfl ?_ rfl rfl ?_ ?_
            rotate_left
            · intro w' hF; clear hF; go_simp; try rfl
            rotate_left
            · simp only [Act.put]; exact rfl
            refine Calm.takeL 26 (i := 20) (v := ?_) (a' := ?_) (l' := #[true, true, true, true, true, true, true, true, true, true, true, true, true, true, true, true, true, true, true, true, true, false, false, false, false, false]) (d := some 104) (by kernel_rfl) rfl (by kernel_rfl) (by kernel_rfl) (by kernel_rfl) (by kernel_rfl) (fun _ _ _ h => h) HF.out rfl ?_ rfl rfl ?_ ?_
            rotate_left
            · intro w' hF; clear hF; go_simp; try rfl
            rotate_left
            · simp only [Act.put]; exact rfl
            refine Calm.takeL 26 (i := 21) (v := ?_) (a' := ?_) (l' := #[true, true, true, true, true, true, true, true, true, true, true, true, true, true, true, true, true, true, true, true, true, true, false, false, false, false]) (d := some 105) (by kernel_rfl) rfl (by kernel_rfl) (by kernel_rfl) (by kernel_rfl) (by kernel_rfl) (fun _ _ _ h => h) HF.out (by kernel_rfl) ?_ rfl rfl ?_ ?_
            rotate_left
            · intro w' hF; clear hF; go_simp; try rfl
            rotate_left
            · simp only [Act.put]; exact rfl
            refine Calm.takeL 26 (i := 22) (v := ?_) (a' := ?_) (l' := #[true, true, true, true, true, true, true, true, true, true, true, true, true, true, true, true, true, true, true, true, true, true, true, false, false, false]) (d := some 106) (by kernel_rfl) rfl (by kernel_rfl) (by kernel_rfl) (by kernel_rfl) (by kernel_rfl) (fun _ _ _ h => h) HF.out (by kernel_rfl) ?_ rfl rfl ?_ ?_
            rotate_left
            · intro w' hF; clear hF; go_simp; try rfl
            rotate_left
            · simp only [Act.put]; exact rfl
            refine Calm.one (i := 23) (l' := #[true, true, true, true, true, true, true, true, true, true, true, true, true, true, true, true, true, true, true, true, true, true, true, true, false, false]) (by kernel_rfl) rfl (by kernel_rfl) rfl fun K hK => ?_
            go_simp
            refine (eqo_any _ _ _ _ _ (LO.out.below HF.out) (WO.out.below HF.out)).mono ?_
            rintro e x5 ⟨rfl, hb⟩
            rw [eqB_yes EW.out]
            have HF' := hide (HF.out.trans ((hb).mono HF.out.size))
            refine hK _ _ (fun _ => HF'.out) ?_
            clear hK K HF hb
            have HF := hide HF'.out
            clear HF'
            refine Calm.takeL 26 (i := 24) (v := ?_) (a' := ?_) (l' := #[true, true, true, true, true, true, true, true, true, true, true, true, true, true, true, true, true, true, true, true, true, true, true, true, true, false]) (d := some 108) (by kernel_rfl) rfl (by kernel_rfl) (by kernel_rfl) (by kernel_rfl) (by kernel_rfl) (fun _ _ _ h => h) HF.out (by kernel_rfl) ?_ rfl rfl ?_ ?_
            rotate_left
            · intro w' hF; clear hF; go_simp; try rfl
            rotate_left
            · simp only [Act.put]; exact rfl
            refine Calm.takeL 26 (i := 25) (v := ?_) (a' := ?_) (l' := #[true, true, true, true, true, true, true, true, true, true, true, true, true, true, true, true, true, true, true, true, true, true, true, true, true, true]) (d := some 109) (by kernel_rfl) rfl (by kernel_rfl) (by kernel_rfl) (by kernel_rfl) (by kernel_rfl) (fun _ _ _ h => h) HF.out rfl ?_ rfl rfl ?_ ?_
            rotate_left
            · intro w' hF; clear hF; go_simp; try rfl
            rotate_left
            · simp only [Act.put]; exact rfl
            refine Calm.done (by kernel_rfl) ?_
            have hb := HF.out
            replace HD := hide ((hb.block D (Array.getElem?_eq_some_iff.1 HD.out).1).trans HD.out)
            replace HW := hide (HW.out.trans (hb.mono HW.out.size))
            clear hb
            have FL : Hid (q.code.length ≤ qc ∧ q.outs.length ≤ rc) := hide ⟨own_lencap OC.out, own_lencap OO.out⟩
            have RS : Hid ((RowW x5 w5.heap.size 34 5 (.slice qa qc qc) qc) ∧ RowW x5 w5.heap.size 3 1 (.slice ra rc rc) rc) := hide ⟨own_cap (own_below OC.out HW.out), own_cap (own_below OO.out HW.out)⟩
            have QX2 := hide (QX.out.step HW.out)
            have HV := hide (H5.out.trans (HW.out.mono H5.out.size))
            have q2 := QX2.out.cell2
            have lq4 := LQ.out
            clear HF HW
            go_wp2
            clear q2
            go_loopw [113, 15] (fun kv _ wr => ∃ k : Nat, k ≤ q.code.length ∧ kv = .int .i64 k ∧ Below w5.heap.size w5 wr ∧ Box4 wr Q 25 (.int .i64 q.ins) (.int .i64 q.regs) (.slice qa q.code.length qc) (.slice ra q.outs.length rc) ∧ ((RowW wr w5.heap.size 34 5 (.slice qa qc qc) qc) ∧ RowW wr w5.heap.size 3 1 (.slice ra rc rc) rc) ∧ wr.heap[D]? = some (.deferred (some []))) (fun kv _ _ => q.code.length - (intOf kv).toNat)
            case atStart => exact ⟨0, Nat.zero_le _, rfl, HV.out, QX2.out, RS.out, HD.out⟩
            case round =>
              clear HV QX2 RS HD
              obtain ⟨k', hk', rfl, hwr, hqx, hrs, hdd⟩ := hrel
              have HV := hide hwr
              have QX2 := hide hqx
              have RS := hide hrs
              have HD := hide hdd
              clear hwr hqx hrs hdd
              have q2 := QX2.out.cell2
              by_cases hlt' : k' < q.code.length
              · obtain ⟨g, rfl⟩ := row_some RS.out.1 (by have := FL.out.1; omega)
                obtain ⟨⟨z1, e1⟩, f1⟩ := row_cell RS.out.1 (j := k' * 5 + 1) (by have := FL.out.1; omega)
                have GE := hide (row_block RS.out.1)
                go_wp2
                go_roundw
                case rel =>
                  obtain ⟨hge, cur, hg, _⟩ := GE.out
                  exact ⟨k' + 1, by omega, by go_num, HV.out.setCell (p := ⟨g, _, none⟩) hge _, box4_set QX2.out hg (by decide) _ _, rows_set RS.out (by decide) _ _, (Below.heap_setCell _ ⟨g, _, none⟩ _ D (fun e => by have h := HD.out; rw [show D = g from e, hg] at h; cases h)).trans HD.out⟩
                case measure => simp [intOf]; omega
              · have e : k' = q.code.length := by omega
                subst e
                clear q2
                have q3 := QX2.out.cell3
                by_cases ho : q.outs.length = 0
                · have hcl : ∀ ty, (Builtin.clear_ #[23] ty #[.slice ra q.outs.length rc]).run Try.prog wr = .ok (.tuple #[]) wr := fun ty => by rw [ho]; exact clear_none wr _ _ ty Try.underlying23 _ _
                  clear ho
                  go_upto_region 32 with fail
                  clear hcl q3
                  obtain ⟨wz, hwz⟩ : ∃ x, x = wr := ⟨_, rfl⟩
                  rw [← hwz]
                  replace HV : Hid (Below w5.heap.size w5 wz) := hide (by rw [hwz]; exact HV.out)
                  replace HD : Hid (wz.heap[D]? = some (.deferred (some []))) := hide (by rw [hwz]; exact HD.out)
                  clear hwz
                  have c0 := (PX.out.step HV.out).cell0
                  have c1 := (PX.out.step HV.out).cell1
                  have c2 := (PX.out.step HV.out).cell2
                  have c3 := (PX.out.step HV.out).cell3
                  have d0 := (KX.out.step HV.out).cell0
                  have d1 := (KX.out.step HV.out).cell1
                  have d2 := (KX.out.step HV.out).cell2
                  have d3 := (KX.out.step HV.out).cell3
                  go_wp2_with fail
                  refine (rsame_any _ _ p p _ (HK.out.below HV.out) (HP.out.below HV.out)).mono ?_
                  rintro e w16 ⟨rfl, hb⟩
                  rw [eqB_yes rfl]
                  clear c0 c1 c2 c3 d0 d1 d2 d3
                  replace HD := hide ((hb.block D (Array.getElem?_eq_some_iff.1 HD.out).1).trans HD.out)
                  replace HV := hide (HV.out.trans (hb.mono HV.out.size))
                  go_wp2
                  exact leavesC (B := w.heap.size) (I := fun (_ : Unit) V => Below w.heap.size w V) (below_ownC (Nat.le_refl _) (Nat.le_refl _)) () (fun V q => ⟨_, results_tmp rfl _ _ _, by first | rfl | simp, q⟩) [D] _ (MarksC.one DL.out HD.out) (HB.out.trans (HV.out.mono HB.out.size))
                · obtain ⟨g, rfl⟩ := row_some RS.out.2 (by have := FL.out.2; omega)
                  have hcl : ∀ ty, (Builtin.clear_ #[23] ty #[.slice (some ⟨g, 0, none⟩) q.outs.length rc]).run Try.prog wr = .ok (.tuple #[]) (wr.setCells g 0 (List.replicate q.outs.length (.int .i64 0))) := fun ty => Lib.run_clear_slice wr _ _ ty _ Try.underlying23 zero_int rfl rfl g 0 _ _ (by omega) (fun j hj => by obtain ⟨⟨z, hz⟩, _⟩ := row_cell RS.out.2 (j := j) (by have := FL.out.2; omega); rw [Nat.zero_add, hz]; rfl) (fun j hj => by rw [Nat.zero_add]; exact (row_cell RS.out.2 (j := j) (by have := FL.out.2; omega)).2)
                  have GE := hide (row_block RS.out.2)
                  generalize hset : wr.setCells g 0 (List.replicate q.outs.length (.int .i64 0)) = ws at hcl
                  replace HV : Hid (Below w5.heap.size w5 ws) := hide (by rw [← hset]; exact below_setCells g GE.out.1 _ _ _ HV.out)
                  replace HD : Hid (ws.heap[D]? = some (.deferred (some []))) := hide (by
                    rw [← hset]
                    refine (setCells_other g D (fun e => ?_) _ _ _).trans HD.out
                    obtain ⟨_, cur, hg, _⟩ := GE.out
                    have h := HD.out
                    rw [e, hg] at h; cases h)
                  clear hset
                  go_upto_region 32 with fail
                  clear hcl q3
                  obtain ⟨wz, hwz⟩ : ∃ x, x = ws := ⟨_, rfl⟩
                  rw [← hwz]
                  replace HV : Hid (Below w5.heap.size w5 wz) := hide (by rw [hwz]; exact HV.out)
                  replace HD : Hid (wz.heap[D]? = some (.deferred (some []))) := hide (by rw [hwz]; exact HD.out)
                  clear hwz
                  have c0 := (PX.out.step HV.out).cell0
                  have c1 := (PX.out.step HV.out).cell1
                  have c2 := (PX.out.step HV.out).cell2
                  have c3 := (PX.out.step HV.out).cell3
                  have d0 := (KX.out.step HV.out).cell0
                  have d1 := (KX.out.step HV.out).cell1
                  have d2 := (KX.out.step HV.out).cell2
                  have d3 := (KX.out.step HV.out).cell3
                  go_wp2_with fail
                  refine (rsame_any _ _ p p _ (HK.out.below HV.out) (HP.out.below HV.out)).mono ?_
                  rintro e w16 ⟨rfl, hb⟩
                  rw [eqB_yes rfl]
                  clear c0 c1 c2 c3 d0 d1 d2 d3
                  replace HD := hide ((hb.block D (Array.getElem?_eq_some_iff.1 HD.out).1).trans HD.out)
                  replace HV := hide (HV.out.trans (hb.mono HV.out.size))
                  go_wp2
                  exact leavesC (B := w.heap.size) (I := fun (_ : Unit) V => Below w.heap.size w V) (below_ownC (Nat.le_refl _) (Nat.le_refl _)) () (fun V q => ⟨_, results_tmp rfl _ _ _, by first | rfl | simp, q⟩) [D] _ (MarksC.one DL.out HD.out) (HB.out.trans (HV.out.mono HB.out.size))
    case st =>
      rintro D c pre Z hD hp ⟨rfl, hw⟩ hK
      have HW := hide hw
      have HD := hide hK
      have DL : Hid (w.heap.size ≤ D) := hide (by have h1 := HB.out.size; have h2 := H5.out.size; have h3 := SZ.out; omega)
      clear hp hw hK hD EX EX2 OB BX N0 NL
      refine wpIn_exit ?_
      simp only [Exit.inBlock, Exit.then]
      rw [if_pos trivial]
      refine (by assumption : ∀ a w, Code.wp Try.prog _ _ a w → _) _ _ ?_
      try simp only [List.setIfInBounds_toArray, List.set_cons_succ, List.set_cons_zero]
      have c0 := ((PX.out.step H5.out).step HW.out).cell0
      have c1 := ((PX.out.step H5.out).step HW.out).cell1
      have c2 := ((PX.out.step H5.out).step HW.out).cell2
      have c3 := ((PX.out.step H5.out).step HW.out).cell3
      go_wp2_with fail
      refine (lidle_any _ p _ ((HP.out.below H5.out).below HW.out) LE.out).mono ?_
      rintro e u1 ⟨⟨vo, rfl, hvo⟩, hb⟩
      obtain ⟨na, nc, hna⟩ := own_slice hvo
      obtain ⟨n1, hn1⟩ : ∃ n1, n1 = (nums (ixsK (idR p) (idR p).length)).length := ⟨_, rfl⟩
      rw [← hn1] at hna
      subst hna
      have LO := hide (OwnO.at hvo)
      skip
      have EN := hide hn1
      clear hvo hn1 c0 c1 c2 c3
      replace HD := hide ((hb.block D (Array.getElem?_eq_some_iff.1 HD.out).1).trans HD.out)
      replace HW := hide (HW.out.trans (hb.mono HW.out.size))
      clear hb
      have c0 := ((PX.out.step H5.out).step HW.out).cell0
      have c1 := ((PX.out.step H5.out).step HW.out).cell1
      have c2 := ((PX.out.step H5.out).step HW.out).cell2
      have c3 := ((PX.out.step H5.out).step HW.out).cell3
      have d0 := ((KX.out.step H5.out).step HW.out).cell0
      have d1 := ((KX.out.step H5.out).step HW.out).cell1
      have d2 := ((KX.out.step H5.out).step HW.out).cell2
      have d3 := ((KX.out.step H5.out).step HW.out).cell3
      go_wp2_with fail
      refine (rsame_any _ _ p p _ ((HK.out.below H5.out).below HW.out) ((HP.out.below H5.out).below HW.out)).mono ?_
      rintro e u2 ⟨rfl, hb⟩
      rw [eqB_yes rfl]
      replace LO := hide (LO.out.below hb)
      clear c0 c1 c2 c3 d0 d1 d2 d3
      replace HD := hide ((hb.block D (Array.getElem?_eq_some_iff.1 HD.out).1).trans HD.out)
      replace HW := hide (HW.out.trans (hb.mono HW.out.size))
      clear hb
      have c0 := ((PX.out.step H5.out).step HW.out).cell0
      have c1 := ((PX.out.step H5.out).step HW.out).cell1
      have c2 := ((PX.out.step H5.out).step HW.out).cell2
      have c3 := ((PX.out.step H5.out).step HW.out).cell3
      go_wp2_with fail
      refine (rright_any _ p _ ((HP.out.below H5.out).below HW.out)).mono ?_
      rintro e u3 ⟨rfl, hb⟩
      replace LO := hide (LO.out.below hb)
      clear c0 c1 c2 c3
      replace HD := hide ((hb.block D (Array.getElem?_eq_some_iff.1 HD.out).1).trans HD.out)
      replace HW := hide (HW.out.trans (hb.mono HW.out.size))
      clear hb
      cases hr : rightB p with
      | false =>
        have hq : ee = 80 ∧ q = zeD := by rcases QE.out with ⟨h, _⟩ | ⟨_, h1, h2⟩; (rw [hr] at h; cases h); exact ⟨h1, h2⟩
        have ha : ff = 80 ∧ la = [] := by rcases AE.out with ⟨h, _⟩ | ⟨_, h1, h2⟩; (rw [hr] at h; cases h); exact ⟨h1, h2⟩
        obtain ⟨rfl, rfl⟩ := hq
        obtain ⟨rfl, rfl⟩ := ha
        have hn0 : n1 = 0 := by rw [EN.out, idR_wrong hr]; rfl
        subst hn0
        have g0 := (QX.out.step HW.out).cell0
        have g1 := (QX.out.step HW.out).cell1
        have g2 := (QX.out.step HW.out).cell2
        have g3 := (QX.out.step HW.out).cell3
        go_wp2_with fail
        refine (rsame_any _ _ zeD zeD _ (OwnPg.at (p := zeD) ⟨_, _, rfl, own_below OC.out HW.out, own_below OO.out HW.out⟩) (ze_atD _)).mono ?_
        rintro e u4 ⟨rfl, hb⟩
        rw [eqB_yes rfl]
        clear g0 g1 g2 g3
        replace HD := hide ((hb.block D (Array.getElem?_eq_some_iff.1 HD.out).1).trans HD.out)
        replace HW := hide (HW.out.trans (hb.mono HW.out.size))
        clear hb
        go_wp2
        exact leavesC (B := w.heap.size) (I := fun (_ : Unit) V => Below w.heap.size w V) (below_ownC (Nat.le_refl _) (Nat.le_refl _)) () (fun V q => ⟨_, results_tmp rfl _ _ _, by first | rfl | simp, q⟩) [D] _ (MarksC.one DL.out HD.out) (HB.out.trans ((H5.out.trans (HW.out.mono H5.out.size)).mono HB.out.size))
      | true =>
        have hq : ee = 0 ∧ q = ddP p := by rcases QE.out with ⟨_, h1, h2⟩ | ⟨h, _⟩; exact ⟨h1, h2⟩; (rw [hr] at h; cases h)
        have ha : ff = 0 ∧ la = askd p := by rcases AE.out with ⟨_, h1, h2⟩ | ⟨h, _⟩; exact ⟨h1, h2⟩; (rw [hr] at h; cases h)
        obtain ⟨rfl, hqd⟩ := hq
        obtain ⟨rfl, hla⟩ := ha
        have HQD := hide hqd
        have HLA := hide hla
        have RP := hide hr
        have LP := hide (LE.out hr)
        have LQ : Hid (q.code.length ≤ 400) := hide (by rw [hqd]; exact Nat.le_trans (stay_length _ _) (LE.out hr))
        have EI : Hid (idR p = idL p) := hide (by unfold idR; rw [hr]; rfl)
        clear hqd hla hr QE AE
        have c0 := ((PX.out.step H5.out).step HW.out).cell0
        have c1 := ((PX.out.step H5.out).step HW.out).cell1
        have c2 := ((PX.out.step H5.out).step HW.out).cell2
        have c3 := ((PX.out.step H5.out).step HW.out).cell3
        go_wp2_with fail
        refine (ridle_any _ p _ ((HP.out.below H5.out).below HW.out) RP.out).mono ?_
        rintro e u4 ⟨⟨vi, rfl, hvi⟩, hb⟩
        obtain ⟨ia, ic, hia⟩ := own_slice hvi
        have IB := hide hvi.bools
        subst hia
        replace LO := hide (LO.out.below hb)
        clear hvi c0 c1 c2 c3
        replace HD := hide ((hb.block D (Array.getElem?_eq_some_iff.1 HD.out).1).trans HD.out)
        replace HW := hide (HW.out.trans (hb.mono HW.out.size))
        clear hb
        obtain ⟨n2, hn2⟩ : ∃ n2, n2 = (idL p).length := ⟨_, rfl⟩
        rw [← hn2] at IB ⊢
        have N2 := hide hn2
        have hn4 : n2 ≤ 400 := by rw [hn2, idL_length]; exact LP.out
        clear hn2
        obtain ⟨uq, huq⟩ : ∃ uq, uq = u4 := ⟨_, rfl⟩
        have WQ : Hid (Below uq.heap.size uq u4) := hide (by rw [huq]; exact Below.refl _ _)
        skip
        have IBQ : Hid (BoolsAt uq (.slice ia n2 ic) (idL p)) := hide (by rw [huq]; exact IB.out)
        have HWQ : Hid (Below w8.heap.size w8 uq) := hide (by rw [huq]; exact HW.out)
        have LOQ : Hid (IntsAt uq (.slice na n1 nc) (nums (ixsK (idR p) (idR p).length))) := hide (by rw [huq]; exact LO.out)
        have HDQ : Hid (uq.heap[D]? = some (.deferred (some []))) := hide (by rw [huq]; exact HD.out)
        clear huq IB LO HW HD
        go_wp2
        go_loopw [73, 12, 13, 14] (fun kv ov _ _ wr => ∃ k : Nat, k ≤ n2 ∧ kv = .int .i64 (k : Nat) ∧ Below uq.heap.size uq wr ∧ OwnO wr uq.heap.size ov (nums (ixsK (idL p) k))) (fun kv _ _ _ _ => n2 - (intOf kv).toNat)
        case atStart => exact ⟨0, Nat.zero_le _, rfl, WQ.out, World.ownsRow_nil _ _ _ _⟩
        case round =>
          clear WQ
          obtain ⟨k, hk, rfl, hbl, ho⟩ := hrel
          have WB := hide hbl
          have OB2 := hide ho
          clear hbl ho
          obtain ⟨wl, hwl⟩ : ∃ wl, wl = wr := ⟨_, rfl⟩
          subst hwl
          by_cases hlt : k < n2
          · obtain ⟨b1, o1, rfl, hcell⟩ := (IBQ.out.below WB.out).at (k := k) (by have := N2.out; omega)
            have EK := hide (ixsK_succ (idL p) k)
            have hkl := ixsK_len (idL p) k
            cases hb : bl (idL p) k with
            | false =>
              rw [hb] at hcell EK
              go_wp2
              go_roundw
              case rel => exact ⟨k + 1, by omega, by go_num, WB.out, by rw [EK.out, if_neg (by decide)]; exact OB2.out⟩
              case measure => simp [intOf]; omega
            | true =>
              rw [hb] at hcell EK
              have al := below_alloc wl (.cells #[.int .i64 (k : Int)] 3)
              have BO := hide (int1 wl (k : Int) rfl)
              have OB3 := hide (own_below OB2.out al)
              have WB2 := hide (WB.out.trans (al.mono WB.out.size))
              clear al
              go_wp2_with (at_builtin; refine wpList_op rfl fun K hK => ?_; refine wp_appO _ _ rfl uq.heap.size _ (nums (ixsK (idL p) k)) rfl OB3.out _ [(k : Int)] rfl BO.out (by rw [nums_len, List.length_singleton]; omega) WB2.out.size ?_; intro v' w9' hown hgrow; refine hK _ _ ?_)
              have WB3 := hide (WB2.out.grown hgrow WB2.out.size (fun g hg => (World.ownsRow.lt OB3.out g hg).1))
              rw [show nums (ixsK (idL p) k) ++ [(k : Int)] = nums (ixsK (idL p) (k + 1)) from by rw [EK.out, if_pos rfl, nums_app]] at hown
              have O9 := hide hown
              clear hown hgrow hcell OB2 OB3 BO
              go_wp2
              go_roundw
              case rel => exact ⟨k + 1, by omega, by go_num, WB3.out, O9.out⟩
              case measure => simp [intOf]; omega
          · have e : k = n2 := by omega
            subst e
            obtain ⟨wa, wc, hwa⟩ := own_slice OB2.out
            obtain ⟨n3, hn3⟩ : ∃ n3, n3 = (nums (ixsK (idL p) k)).length := ⟨_, rfl⟩
            rw [← hn3] at hwa
            subst hwa
            have WO := hide (OwnO.at OB2.out)
            have HW := hide (HWQ.out.trans (WB.out.mono HWQ.out.size))
            have LO := hide (LOQ.out.below WB.out)
            have HD := hide ((WB.out.block D (Array.getElem?_eq_some_iff.1 HDQ.out).1).trans HDQ.out)
            have EW : Hid (nums (ixsK (idR p) (idR p).length) = nums (ixsK (idL p) k)) := hide (by rw [EI.out, ← N2.out])
            clear OB2 hn3 WB HWQ LOQ HDQ IBQ
            obtain ⟨wy, hwy⟩ : ∃ wy, wy = wl := ⟨_, rfl⟩
            subst hwy
            go_upto_region 24 with fail
            refine wp_calm (fun w' => Below wy.heap.size wy w') (fun _ => true) 26 #[false, false, false, false, false, false, false, false, false, false, false, false, false, false, false, false, false, false, false, false, false, false, false, false, false, false] (by kernel_rfl) rfl rfl ?_
            have HF := hide ((Below.refl wy.heap.size wy).drew)
            generalize wy.drew = wyd at *
            refine Calm.takeL 26 (i := 0) (v := ?_) (a' := ?_) (l' := #[true, false, false, false, false, false, false, false, false, false, false, false, false, false, false, false, false, false, false, false, false, false, false, false, false, false]) (d := some 84) (by kernel_rfl) rfl (by kernel_rfl) (by kernel_rfl) (by kernel_rfl) (by kernel_rfl) (fun _ _ _ h => h) HF.out rfl ?_ rfl rfl ?_ ?_
            rotate_left
            · intro w' hF; clear hF; go_simp; try rfl
            rotate_left
            · simp only [Act.put]; exact rfl
            refine Calm.takeL 26 (i := 1) (v := ?_) (a' := ?_) (l' := #[true, true, false, false, false, false, false, false, false, false, false, false, false, false, false, false, false, false, false, false, false, false, false, false, false, false]) (d := some 85) (by kernel_rfl) rfl (by kernel_rfl) (by kernel_rfl) (by kernel_rfl) (by kernel_rfl) (fun _ _ _ h => h) HF.out rfl ?_ rfl rfl ?_ ?_
            rotate_left
            · intro w' hF; clear hF; go_simp; try rfl
            rotate_left
            · simp only [Act.put]; exact rfl
            refine Calm.takeL 26 (i := 2) (v := ?_) (a' := ?_) (l' := #[true, true, true, false, false, false, false, false, false, false, false, false, false, false, false, false, false, false, false, false, false, false, false, false, false, false]) (d := some 86) (by kernel_rfl) rfl (by kernel_rfl) (by kernel_rfl) (by kernel_rfl) (by kernel_rfl) (fun _ _ _ h => h) HF.out rfl ?_ rfl rfl ?_ ?_
            rotate_left
            · intro w' hF; clear hF; go_simp; try rfl
            rotate_left
            · simp only [Act.put]; exact rfl
            refine Calm.takeL 26 (i := 3) (v := ?_) (a' := ?_) (l' := #[true, true, true, true, false, false, false, false, false, false, false, false, false, false, false, false, false, false, false, false, false, false, false, false, false, false]) (d := some 87) (by kernel_rfl) rfl (by kernel_rfl) (by kernel_rfl) (by kernel_rfl) (by kernel_rfl) (fun _ _ _ h => h) HF.out (by kernel_rfl) ?_ rfl rfl ?_ ?_
            rotate_left
            · intro w' hF; clear hF; go_simp; try rfl
            rotate_left
            · simp only [Act.put]; exact rfl
            refine Calm.takeL 26 (i := 4) (v := ?_) (a' := ?_) (l' := #[true, true, true, true, true, false, false, false, false, false, false, false, false, false, false, false, false, false, false, false, false, false, false, false, false, false]) (d := some 88) (by kernel_rfl) rfl (by kernel_rfl) (by kernel_rfl) (by kernel_rfl) (by kernel_rfl) (fun _ _ _ h => h) HF.out (by kernel_rfl) ?_ rfl rfl ?_ ?_
            rotate_left
            · intro w' hF; clear hF; go_simp; try rfl
            rotate_left
            · simp only [Act.put]; exact rfl
            refine Calm.takeL 26 (i := 5) (v := ?_) (a' := ?_) (l' := #[true, true, true, true, true, true, false, false, false, false, false, false, false, false, false, false, false, false, false, false, false, false, false, false, false, false]) (d := some 89) (by kernel_rfl) rfl (by kernel_rfl) (by kernel_rfl) (by kernel_rfl) (by kernel_rfl) (fun _ _ _ h => h) HF.out rfl ?_ rfl rfl ?_ ?_
            rotate_left
            · intro w' hF; clear hF; go_simp; try rfl
            rotate_left
            · simp only [Act.put]; exact rfl
            refine Calm.takeL 26 (i := 6) (v := ?_) (a' := ?_) (l' := #[true, true, true, true, true, true, true, false, false, false, false, false, false, false, false, false, false, false, false, false, false, false, false, false, false, false]) (d := some 90) (by kernel_rfl) rfl (by kernel_rfl) (by kernel_rfl) (by kernel_rfl) (by kernel_rfl) (fun _ _ _ h => h) HF.out rfl ?_ rfl rfl ?_ ?_
            rotate_left
            · intro w' hF; clear hF; go_simp; try rfl
            rotate_left
            · simp only [Act.put]; exact rfl
            refine Calm.takeL 26 (i := 7) (v := ?_) (a' := ?_) (l' := #[true, true, true, true, true, true, true, true, false, false, false, false, false, false, false, false, false, false, false, false, false, false, false, false, false, false]) (d := some 91) (by kernel_rfl) rfl (by kernel_rfl) (by kernel_rfl) (by kernel_rfl) (by kernel_rfl) (fun _ _ _ h => h) HF.out (by kernel_rfl) ?_ rfl rfl ?_ ?_
            rotate_left
            · intro w' hF; have e0 := (((PX.out.step H5.out).step HW.out).step hF).cell0; have e1 := (((PX.out.step H5.out).step HW.out).step hF).cell1; have e2 := (((PX.out.step H5.out).step HW.out).step hF).cell2; have e3 := (((PX.out.step H5.out).step HW.out).step hF).cell3; have g0 := ((QX.out.step HW.out).step hF).cell0; have g1 := ((QX.out.step HW.out).step hF).cell1; have g2 := ((QX.out.step HW.out).step hF).cell2; have g3 := ((QX.out.step HW.out).step hF).cell3; clear hF; go_simp; try rfl
            rotate_left
            · simp only [Act.put]; exact rfl
            refine Calm.takeL 26 (i := 8) (v := ?_) (a' := ?_) (l' := #[true, true, true, true, true, true, true, true, true, false, false, false, false, false, false, false, false, false, false, false, false, false, false, false, false, false]) (d := some 92) (by kernel_rfl) rfl (by kernel_rfl) (by kernel_rfl) (by kernel_rfl) (by kernel_rfl) (fun _ _ _ h => h) HF.out (by kernel_rfl) ?_ rfl rfl ?_ ?_
            rotate_left
            · intro w' hF; have e0 := (((PX.out.step H5.out).step HW.out).step hF).cell0; have e1 := (((PX.out.step H5.out).step HW.out).step hF).cell1; have e2 := (((PX.out.step H5.out).step HW.out).step hF).cell2; have e3 := (((PX.out.step H5.out).step HW.out).step hF).cell3; have g0 := ((QX.out.step HW.out).step hF).cell0; have g1 := ((QX.out.step HW.out).step hF).cell1; have g2 := ((QX.out.step HW.out).step hF).cell2; have g3 := ((QX.out.step HW.out).step hF).cell3; clear hF; go_simp; try rfl
            rotate_left
            · simp only [Act.put]; exact rfl
            refine Calm.one (i := 9) (l' := #[true, true, true, true, true, true, true, true, true, true, false, false, false, false, false, false, false, false, false, false, false, false, false, false, false, false]) (by kernel_rfl) rfl (by kernel_rfl) rfl fun K hK => ?_
            go_simp
            refine (rdpass_any _ p _ (((HP.out.below H5.out).below HW.out).below HF.out) RP.out).mono ?_
            rintro e x1 ⟨⟨vr, rfl, hown⟩, hb⟩
            rw [← HQD.out] at hown
            have HR := hide hown.at
            clear hown
            have HF' := hide (HF.out.trans ((hb).mono HF.out.size))
            refine hK _ _ (fun _ => HF'.out) ?_
            clear hK K HF hb
            have HF := hide HF'.out
            clear HF'
            refine Calm.one (i := 10) (l' := #[true, true, true, true, true, true, true, true, true, true, true, false, false, false, false, false, false, false, false, false, false, false, false, false, false, false]) (by kernel_rfl) rfl (by kernel_rfl) rfl fun K hK => ?_
            go_simp
            refine (rsame_any _ _ q q _ ((OwnPg.at (p := q) ⟨_, _, rfl, own_below OC.out HW.out, own_below OO.out HW.out⟩).below HF.out) HR.out).mono ?_
            rintro e x2 ⟨rfl, hb⟩
            rw [eqB_yes rfl]
            have HF' := hide (HF.out.trans ((hb).mono HF.out.size))
            refine hK _ _ (fun _ => HF'.out) ?_
            clear hK K HF hb HR
            have HF := hide HF'.out
            clear HF'
            refine Calm.takeL 26 (i := 11) (v := ?_) (a' := ?_) (l' := #[true, true, true, true, true, true, true, true, true, true, true, true, false, false, false, false, false, false, false, false, false, false, false, false, false, false]) (d := some 95) (by kernel_rfl) rfl (by kernel_rfl) (by kernel_rfl) (by kernel_rfl) (by kernel_rfl) (fun _ _ _ h => h) HF.out (by kernel_rfl) ?_ rfl rfl ?_ ?_
            rotate_left
            · intro w' hF; clear hF; go_simp; try rfl
            rotate_left
            · simp only [Act.put]; exact rfl
            refine Calm.takeL 26 (i := 12) (v := ?_) (a' := ?_) (l' := #[true, true, true, true, true, true, true, true, true, true, true, true, true, false, false, false, false, false, false, false, false, false, false, false, false, false]) (d := some 96) (by kernel_rfl) rfl (by kernel_rfl) (by kernel_rfl) (by kernel_rfl) (by kernel_rfl) (fun _ _ _ h => h) HF.out rfl ?_ rfl rfl ?_ ?_
            rotate_left
            · intro w' hF; clear hF; go_simp; try rfl
            rotate_left
            · simp only [Act.put]; exact rfl
            refine Calm.takeL 26 (i := 13) (v := ?_) (a' := ?_) (l' := #[true, true, true, true, true, true, true, true, true, true, true, true, true, true, false, false, false, false, false, false, false, false, false, false, false, false]) (d := some 97) (by kernel_rfl) rfl (by kernel_rfl) (by kernel_rfl) (by kernel_rfl) (by kernel_rfl) (fun _ _ _ h => h) HF.out rfl ?_ rfl rfl ?_ ?_
            rotate_left
            · intro w' hF; clear hF; go_simp; try rfl
            rotate_left
            · simp only [Act.put]; exact rfl
            refine Calm.takeL 26 (i := 14) (v := ?_) (a' := ?_) (l' := #[true, true, true, true, true, true, true, true, true, true, true, true, true, true, true, false, false, false, false, false, false, false, false, false, false, false]) (d := some 98) (by kernel_rfl) rfl (by kernel_rfl) (by kernel_rfl) (by kernel_rfl) (by kernel_rfl) (fun _ _ _ h => h) HF.out (by kernel_rfl) ?_ rfl rfl ?_ ?_
            rotate_left
            · intro w' hF; clear hF; go_simp; try rfl
            rotate_left
            · simp only [Act.put]; exact rfl
            refine Calm.takeL 26 (i := 15) (v := ?_) (a' := ?_) (l' := #[true, true, true, true, true, true, true, true, true, true, true, true, true, true, true, true, false, false, false, false, false, false, false, false, false, false]) (d := some 99) (by kernel_rfl) rfl (by kernel_rfl) (by kernel_rfl) (by kernel_rfl) (by kernel_rfl) (fun _ _ _ h => h) HF.out (by kernel_rfl) ?_ rfl rfl ?_ ?_
            rotate_left
            · intro w' hF; have e0 := (((PX.out.step H5.out).step HW.out).step hF).cell0; have e1 := (((PX.out.step H5.out).step HW.out).step hF).cell1; have e2 := (((PX.out.step H5.out).step HW.out).step hF).cell2; have e3 := (((PX.out.step H5.out).step HW.out).step hF).cell3; have g0 := ((QX.out.step HW.out).step hF).cell0; have g1 := ((QX.out.step HW.out).step hF).cell1; have g2 := ((QX.out.step HW.out).step hF).cell2; have g3 := ((QX.out.step HW.out).step hF).cell3; clear hF; go_simp; try rfl
            rotate_left
            · simp only [Act.put]; exact rfl
            refine Calm.one (i := 16) (l' := #[true, true, true, true, true, true, true, true, true, true, true, true, true, true, true, true, true, false, false, false, false, false, false, false, false, false]) (by kernel_rfl) rfl (by kernel_rfl) rfl fun K hK => ?_
            go_simp
            refine (rasked_any _ p _ (((HP.out.below H5.out).below HW.out).below HF.out) RP.out).mono ?_
            rintro e x3 ⟨⟨gg, rfl, hoa⟩, hb⟩
            have RB := hide hoa.bools
            rw [← HLA.out] at RB
            clear hoa
            have HF' := hide (HF.out.trans ((hb).mono HF.out.size))
            refine hK _ _ (fun _ => HF'.out) ?_
            clear hK K HF hb
            have HF := hide HF'.out
            clear HF'
            refine Calm.one (i := 17) (l' := #[true, true, true, true, true, true, true, true, true, true, true, true, true, true, true, true, true, true, false, false, false, false, false, false, false, false]) (by kernel_rfl) rfl (by kernel_rfl) rfl fun K hK => ?_
            go_simp
            refine (eqbl_any _ _ la la _ ((AB.out.below HW.out).below HF.out) RB.out).mono ?_
            rintro e x4 ⟨rfl, hb⟩
            rw [eqB_yes rfl]
            have HF' := hide (HF.out.trans ((hb).mono HF.out.size))
            refine hK _ _ (fun _ => HF'.out) ?_
            clear hK K HF hb RB
            have HF := hide HF'.out
            clear HF'
            refine Calm.takeL 26 (i := 18) (v := ?_) (a' := ?_) (l' := #[true, true, true, true, true, true, true, true, true, true, true, true, true, true, true, true, true, true, true, false, false, false, false, false, false, false]) (d := some 102) (by kernel_rfl) rfl (by kernel_rfl) (by kernel_rfl) (by kernel_rfl) (by kernel_rfl) (fun _ _ _ h => h) HF.out (by kernel_rfl) ?_ rfl rfl ?_ ?_
            rotate_left
            · intro w' hF; clear hF; go_simp; try rfl
            rotate_left
            · simp only [Act.put]; exact rfl
            refine Calm.takeL 26 (i := 19) (v := ?_) (a' := ?_) (l' := #[true, true, true, true, true, true, true, true, true, true, true, true, true, true, true, true, true, true, true, true, false, false, false, false, false, false]) (d := some 103) (by kernel_rfl) rfl (by kernel_rfl) (by kernel_rfl) (by kernel_rfl) (by kernel_rfl) (fun _ _ _ h => h) HF.out rfl ?_ rfl rfl ?_ ?_
            rotate_left
            · intro w' hF; clear hF; go_simp; try rfl
            rotate_left
            · simp only [Act.put]; exact rfl
            refine Calm.takeL 26 (i := 20) (v := ?_) (a' := ?_) (l' := #[true, true, true, true, true, true, true, true, true, true, true, true, true, true, true, true, true, true, true, true, true, false, false, false, false, false]) (d := some 104) (by kernel_rfl) rfl (by kernel_rfl) (by kernel_rfl) (by kernel_rfl) (by kernel_rfl) (fun _ _ _ h => h) HF.out rfl ?_ rfl rfl ?_ ?_
            rotate_left
            · intro w' hF; clear hF; go_simp; try rfl
            rotate_left
            · simp only [Act.put]; exact rfl
            refine Calm.takeL 26 (i := 21) (v := ?_) (a' := ?_) (l' := #[true, true, true, true, true, true, true, true, true, true, true, true, true, true, true, true, true, true, true, true, true, true, false, false, false, false]) (d := some 105) (by kernel_rfl) rfl (by kernel_rfl) (by kernel_rfl) (by kernel_rfl) (by kernel_rfl) (fun _ _ _ h => h) HF.out (by kernel_rfl) ?_ rfl rfl ?_ ?_
            rotate_left
            · intro w' hF; clear hF; go_simp; try rfl
            rotate_left
            · simp only [Act.put]; exact rfl
            refine Calm.takeL 26 (i := 22) (v := ?_) (a' := ?_) (l' := #[true, true, true, true, true, true, true, true, true, true, true, true, true, true, true, true, true, true, true, true, true, true, true, false, false, false]) (d := some 106) (by kernel_rfl) rfl (by kernel_rfl) (by kernel_rfl) (by kernel_rfl) (by kernel_rfl) (fun _ _ _ h => h) HF.out (by kernel_rfl) ?_ rfl rfl ?_ ?_
            rotate_left
            · intro w' hF; clear hF; go_simp; try rfl
            rotate_left
            · simp only [Act.put]; exact rfl
            refine Calm.one (i := 23) (l' := #[true, true, true, true, true, true, true, true, true, true, true, true, true, true, true, true, true, true, true, true, true, true, true, true, false, false]) (by kernel_rfl) rfl (by kernel_rfl) rfl fun K hK => ?_
            go_simp
            refine (eqo_any _ _ _ _ _ (LO.out.below HF.out) (WO.out.below HF.out)).mono ?_
            rintro e x5 ⟨rfl, hb⟩
            rw [eqB_yes EW.out]
            have HF' := hide (HF.out.trans ((hb).mono HF.out.size))
            refine hK _ _ (fun _ => HF'.out) ?_
            clear hK K HF hb
            have HF := hide HF'.out
            clear HF'
            refine Calm.takeL 26 (i := 24) (v := ?_) (a' := ?_) (l' := #[true, true, true, true, true, true, true, true, true, true, true, true, true, true, true, true, true, true, true, true, true, true, true, true, true, false]) (d := some 108) (by kernel_rfl) rfl (by kernel_rfl) (by kernel_rfl) (by kernel_rfl) (by kernel_rfl) (fun _ _ _ h => h) HF.out (by kernel_rfl) ?_ rfl rfl ?_ ?_
            rotate_left
            · intro w' hF; clear hF; go_simp; try rfl
            rotate_left
            · simp only [Act.put]; exact rfl
            refine Calm.takeL 26 (i := 25) (v := ?_) (a' := ?_) (l' := #[true, true, true, true, true, true, true, true, true, true, true, true, true, true, true, true, true, true, true, true, true, true, true, true, true, true]) (d := some 109) (by kernel_rfl) rfl (by kernel_rfl) (by kernel_rfl) (by kernel_rfl) (by kernel_rfl) (fun _ _ _ h => h) HF.out rfl ?_ rfl rfl ?_ ?_
            rotate_left
            · intro w' hF; clear hF; go_simp; try rfl
            rotate_left
            · simp only [Act.put]; exact rfl
            refine Calm.done (by kernel_rfl) ?_
            have hb := HF.out
            replace HD := hide ((hb.block D (Array.getElem?_eq_some_iff.1 HD.out).1).trans HD.out)
            replace HW := hide (HW.out.trans (hb.mono HW.out.size))
            clear hb
            have FL : Hid (q.code.length ≤ qc ∧ q.outs.length ≤ rc) := hide ⟨own_lencap OC.out, own_lencap OO.out⟩
            have RS : Hid ((RowW x5 w5.heap.size 34 5 (.slice qa qc qc) qc) ∧ RowW x5 w5.heap.size 3 1 (.slice ra rc rc) rc) := hide ⟨own_cap (own_below OC.out HW.out), own_cap (own_below OO.out HW.out)⟩
            have QX2 := hide (QX.out.step HW.out)
            have HV := hide (H5.out.trans (HW.out.mono H5.out.size))
            have q2 := QX2.out.cell2
            have lq4 := LQ.out
            clear HF HW
            go_wp2
            clear q2
            go_loopw [113, 15] (fun kv _ wr => ∃ k : Nat, k ≤ q.code.length ∧ kv = .int .i64 k ∧ Below w5.heap.size w5 wr ∧ Box4 wr Q 25 (.int .i64 q.ins) (.int .i64 q.regs) (.slice qa q.code.length qc) (.slice ra q.outs.length rc) ∧ ((RowW wr w5.heap.size 34 5 (.slice qa qc qc) qc) ∧ RowW wr w5.heap.size 3 1 (.slice ra rc rc) rc) ∧ wr.heap[D]? = some (.deferred (some []))) (fun kv _ _ => q.code.length - (intOf kv).toNat)
            case atStart => exact ⟨0, Nat.zero_le _, rfl, HV.out, QX2.out, RS.out, HD.out⟩
            case round =>
              clear HV QX2 RS HD
              obtain ⟨k', hk', rfl, hwr, hqx, hrs, hdd⟩ := hrel
              have HV := hide hwr
              have QX2 := hide hqx
              have RS := hide hrs
              have HD := hide hdd
              clear hwr hqx hrs hdd
              have q2 := QX2.out.cell2
              by_cases hlt' : k' < q.code.length
              · obtain ⟨g, rfl⟩ := row_some RS.out.1 (by have := FL.out.1; omega)
                obtain ⟨⟨z1, e1⟩, f1⟩ := row_cell RS.out.1 (j := k' * 5 + 1) (by have := FL.out.1; omega)
                have GE := hide (row_block RS.out.1)
                go_wp2
                go_roundw
                case rel =>
                  obtain ⟨hge, cur, hg, _⟩ := GE.out
                  exact ⟨k' + 1, by omega, by go_num, HV.out.setCell (p := ⟨g, _, none⟩) hge _, box4_set QX2.out hg (by decide) _ _, rows_set RS.out (by decide) _ _, (Below.heap_setCell _ ⟨g, _, none⟩ _ D (fun e => by have h := HD.out; rw [show D = g from e, hg] at h; cases h)).trans HD.out⟩
                case measure => simp [intOf]; omega
              · have e : k' = q.code.length := by omega
                subst e
                clear q2
                have q3 := QX2.out.cell3
                by_cases ho : q.outs.length = 0
                · have hcl : ∀ ty, (Builtin.clear_ #[23] ty #[.slice ra q.outs.length rc]).run Try.prog wr = .ok (.tuple #[]) wr := fun ty => by rw [ho]; exact clear_none wr _ _ ty Try.underlying23 _ _
                  clear ho
                  go_upto_region 32 with fail
                  clear hcl q3
                  obtain ⟨wz, hwz⟩ : ∃ x, x = wr := ⟨_, rfl⟩
                  rw [← hwz]
                  replace HV : Hid (Below w5.heap.size w5 wz) := hide (by rw [hwz]; exact HV.out)
                  replace HD : Hid (wz.heap[D]? = some (.deferred (some []))) := hide (by rw [hwz]; exact HD.out)
                  clear hwz
                  have c0 := (PX.out.step HV.out).cell0
                  have c1 := (PX.out.step HV.out).cell1
                  have c2 := (PX.out.step HV.out).cell2
                  have c3 := (PX.out.step HV.out).cell3
                  have d0 := (KX.out.step HV.out).cell0
                  have d1 := (KX.out.step HV.out).cell1
                  have d2 := (KX.out.step HV.out).cell2
                  have d3 := (KX.out.step HV.out).cell3
                  go_wp2_with fail
                  refine (rsame_any _ _ p p _ (HK.out.below HV.out) (HP.out.below HV.out)).mono ?_
                  rintro e w16 ⟨rfl, hb⟩
                  rw [eqB_yes rfl]
                  clear c0 c1 c2 c3 d0 d1 d2 d3
                  replace HD := hide ((hb.block D (Array.getElem?_eq_some_iff.1 HD.out).1).trans HD.out)
                  replace HV := hide (HV.out.trans (hb.mono HV.out.size))
                  go_wp2
                  exact leavesC (B := w.heap.size) (I := fun (_ : Unit) V => Below w.heap.size w V) (below_ownC (Nat.le_refl _) (Nat.le_refl _)) () (fun V q => ⟨_, results_tmp rfl _ _ _, by first | rfl | simp, q⟩) [D] _ (MarksC.one DL.out HD.out) (HB.out.trans (HV.out.mono HB.out.size))
                · obtain ⟨g, rfl⟩ := row_some RS.out.2 (by have := FL.out.2; omega)
                  have hcl : ∀ ty, (Builtin.clear_ #[23] ty #[.slice (some ⟨g, 0, none⟩) q.outs.length rc]).run Try.prog wr = .ok (.tuple #[]) (wr.setCells g 0 (List.replicate q.outs.length (.int .i64 0))) := fun ty => Lib.run_clear_slice wr _ _ ty _ Try.underlying23 zero_int rfl rfl g 0 _ _ (by omega) (fun j hj => by obtain ⟨⟨z, hz⟩, _⟩ := row_cell RS.out.2 (j := j) (by have := FL.out.2; omega); rw [Nat.zero_add, hz]; rfl) (fun j hj => by rw [Nat.zero_add]; exact (row_cell RS.out.2 (j := j) (by have := FL.out.2; omega)).2)
                  have GE := hide (row_block RS.out.2)
                  generalize hset : wr.setCells g 0 (List.replicate q.outs.length (.int .i64 0)) = ws at hcl
                  replace HV : Hid (Below w5.heap.size w5 ws) := hide (by rw [← hset]; exact below_setCells g GE.out.1 _ _ _ HV.out)
                  replace HD : Hid (ws.heap[D]? = some (.deferred (some []))) := hide (by
                    rw [← hset]
                    refine (setCells_other g D (fun e => ?_) _ _ _).trans HD.out
                    obtain ⟨_, cur, hg, _⟩ := GE.out
                    have h := HD.out
                    rw [e, hg] at h; cases h)
                  clear hset
                  go_upto_region 32 with fail
                  clear hcl q3
                  obtain ⟨wz, hwz⟩ : ∃ x, x = ws := ⟨_, rfl⟩
                  rw [← hwz]
                  replace HV : Hid (Below w5.heap.size w5 wz) := hide (by rw [hwz]; exact HV.out)
                  replace HD : Hid (wz.heap[D]? = some (.deferred (some []))) := hide (by rw [hwz]; exact HD.out)
                  clear hwz
                  have c0 := (PX.out.step HV.out).cell0
                  have c1 := (PX.out.step HV.out).cell1
                  have c2 := (PX.out.step HV.out).cell2
                  have c3 := (PX.out.step HV.out).cell3
                  have d0 := (KX.out.step HV.out).cell0
                  have d1 := (KX.out.step HV.out).cell1
                  have d2 := (KX.out.step HV.out).cell2
                  have d3 := (KX.out.step HV.out).cell3
                  go_wp2_with fail
                  refine (rsame_any _ _ p p _ (HK.out.below HV.out) (HP.out.below HV.out)).mono ?_
                  rintro e w16 ⟨rfl, hb⟩
                  rw [eqB_yes rfl]
                  clear c0 c1 c2 c3 d0 d1 d2 d3
                  replace HD := hide ((hb.block D (Array.getElem?_eq_some_iff.1 HD.out).1).trans HD.out)
                  replace HV := hide (HV.out.trans (hb.mono HV.out.size))
                  go_wp2
                  exact leavesC (B := w.heap.size) (I := fun (_ : Unit) V => Below w.heap.size w V) (below_ownC (Nat.le_refl _) (Nat.le_refl _)) () (fun V q => ⟨_, results_tmp rfl _ _ _, by first | rfl | simp, q⟩) [D] _ (MarksC.one DL.out HD.out) (HB.out.trans (HV.out.mono HB.out.size))
end Go.Proofs.Ytcciojlbfaanmaa
