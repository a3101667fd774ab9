/- share.through and its iterator: of each instruction its number, the value, the first one with its key. -/
import Derived.Test.YtclopelniopjkaaRgL
import Derived.Test.YtclopelniopjkaaShPa
namespace Go.Proofs.Ytclopelniopjkaa
open Go.RowKit Go.Shelf
attribute [local go_sem] Oper.semAt_some

/-- what is told of an instruction: its number, the value, the first one with its key -/
abbrev Tl := Nat × Int × Int
def tl (p : Pg) (k : Nat) : Tl := (k, (runS p k).val k (cd p.code k))
/-- the first m that are told -/
def tls (p : Pg) (m : Nat) : List Tl := (List.range m).map (tl p)
theorem tls_length (p : Pg) (m : Nat) : (tls p m).length = m := by simp [tls]
theorem tls_succ (p : Pg) (m : Nat) : tls p (m + 1) = tls p m ++ [tl p m] := by unfold tls; rw [List.range_succ, List.map_append]; rfl
theorem tls_pre (p : Pg) (m n : Nat) (h : m ≤ n) : tls p m <+: tls p n := by
  unfold tls
  obtain ⟨k, rfl⟩ : ∃ k, n = m + k := ⟨n - m, by omega⟩
  rw [List.range_add, List.map_append]
  exact List.prefix_append _ _
theorem pre_tls {p : Pg} {pre : List Tl} {n : Nat} (h : pre <+: tls p n) : pre = tls p pre.length ∧ pre.length ≤ n := by
  have hl := h.length_le
  rw [tls_length] at hl
  refine ⟨?_, hl⟩
  have h2 := tls_pre p pre.length n hl
  exact List.prefix_of_prefix_length_le h h2 (by rw [tls_length]; exact Nat.le_refl _) |>.eq_of_length (by rw [tls_length])
theorem pre_snoc {p : Pg} {pre : List Tl} {x : Tl} {n : Nat} (h : pre ++ [x] <+: tls p n) : pre = tls p pre.length ∧ x = tl p pre.length ∧ pre.length < n := by
  obtain ⟨h1, h2⟩ := pre_tls h
  rw [List.length_append, List.length_singleton] at h1 h2
  rw [tls_succ] at h1
  have := List.append_inj h1 (by rw [tls_length])
  exact ⟨this.1, by simpa using this.2, by omega⟩
def encT (x : Tl) : Array Value := #[.int .i64 (x.1 : Nat), .agg #[.int .i64 x.2.1, .int .i64 x.2.2]]
theorem Still.turns {w w' : World} {B g m lo hi : Nat} (h : Still w w' B g m) (h1 : lo ≤ B ∧ lo ≤ g ∧ lo ≤ m) (h2 : B < hi ∧ g < hi ∧ m < hi) : Turns lo hi w w' :=
  ⟨h.bel, fun k hk hc => h.keep k hk (by omega) (by omega) (by omega)⟩
theorem Turns.set {lo hi b o : Nat} (X : World) (v : Value) (h1 : lo ≤ b) (h2 : b < hi) : Turns lo hi X (X.setCell ⟨b, o, none⟩ v) :=
  ⟨(Below.refl 0 X).setCell (p := ⟨b, o, none⟩) (Nat.zero_le _) v, fun k _ hc => Below.heap_setCell X ⟨b, o, none⟩ v k (by show k ≠ b; omega)⟩
theorem Turns.drew {lo hi : Nat} {X Y : World} (h : Turns lo hi X Y) : Turns lo hi X Y.drew := ⟨h.bel.drew, h.keep⟩
theorem Turns.keeps {lo hi a b : Nat} {X Y : World} (h : Turns lo hi X Y) (h1 : b ≤ lo) (h2 : b ≤ X.heap.size) : Keeps a b X Y := fun k _ hk => h.keep k (by omega) (.inl (by omega))
theorem BookAt.kept {w w' : World} {base B g m n lo hi : Nat} {D : DataW Unit} {s : ShS} (h : BookAt w base B g m n D s) (hk : Keeps lo hi w w') (h1 : lo ≤ B ∧ lo ≤ g ∧ lo ≤ m) (h2 : B < hi ∧ g < hi ∧ m < hi) : BookAt w' base B g m n D s := by
  refine ⟨(hk B h1.1 h2.1).trans h.box, (hk g h1.2.1 h2.2.1).trans h.row, ?_, h.keys, h.ge⟩
  obtain ⟨es, clock, hh, F, hs, hD⟩ := h.map
  exact ⟨es, clock, (hk m h1.2.2 h2.2.2).trans hh, F, hs, hD⟩

theorem InsC.under {w w' : World} {b o base : Nat} {i : Ins} (h : InsC w b o i) (hb : Below base w w') (hl : b < base) : InsC w' b o i :=
  have c := fun (q : Nat) => World.cell?_of_block (a := ⟨b, q, none⟩) (hb.block b hl)
  ⟨(c _).trans h.cell0, (c _).trans h.cell1, (c _).trans h.cell2, (c _).trans h.cell3, (c _).trans h.cell4⟩
set_option maxRecDepth 100000 in
theorem thru_any (v : Value) (p : Pg) (w : World) (h : PgAt w v p) :
    Calls Try.prog 25 #[v] w fun e w' => (∃ ca cc oa oc, v = .agg #[.int .i64 p.ins, .int .i64 p.regs, .slice ca p.code.length cc, .slice oa p.outs.length oc] ∧ e = .returned (.func (.func 48) #[] #[.pointer (some ⟨w.heap.size, 0, none⟩)]) ∧ Box4 w' w.heap.size 25 (.int .i64 p.ins) (.int .i64 p.regs) (.slice ca p.code.length cc) (.slice oa p.outs.length oc)) ∧ Below w.heap.size w w' := by
  obtain ⟨ca, cc, oa, oc, rfl, _, _⟩ := h
  have hb := below_alloc w (.cells #[.int .i64 p.ins, .int .i64 p.regs, .slice ca p.code.length cc, .slice oa p.outs.length oc] 25)
  have PX := Box4.new w 25 (.int .i64 p.ins) (.int .i64 p.regs) (.slice ca p.code.length cc) (.slice oa p.outs.length oc)
  go_enter Try.func25, Try.ntmps25
  go_wp2
  go_ret
  exact ⟨⟨ca, cc, oa, oc, rfl, rfl, PX⟩, hb⟩

set_option maxRecDepth 100000 in
set_option maxHeartbeats 8000000 in
theorem thr_in (n : Nat) (hn : 1 ≤ n) (l bx lo hi : Nat) (p : Pg) (ca oa : Option Addr) (cc oc : Nat) (hr : rightB p = true) (J Jx : Nat → List Tl → World → Prop) (W : World)
    (hBx : Box4 W bx 25 (.int .i64 p.ins) (.int .i64 p.regs) (.slice ca p.code.length cc) (.slice oa p.outs.length oc))
    (hP : PgAt W (.agg #[.int .i64 p.ins, .int .i64 p.regs, .slice ca p.code.length cc, .slice oa p.outs.length oc]) p)
    (hA : ∀ i, i < p.code.length → ∃ b off, ca = some ⟨b, off, none⟩ ∧ lo ≤ b ∧ b < hi ∧ InsC W b (off + i * 5) (cd p.code i)) (hhi : hi ≤ W.heap.size)
    (hJ : ∀ L, OwnFrom W.heap.size (J L)) (hT : ∀ L pre U V, W.heap.size ≤ L → L ≤ U.heap.size → J L pre U → Turns W.heap.size L U V → J L pre V)
    (h0 : ∀ V, Below W.heap.size W V → J V.heap.size [] V)
    (hY : ∀ L pre x U, W.heap.size ≤ L → L ≤ U.heap.size → J L pre U → pre ++ [x] <+: tls p p.code.length → YieldAt Fence.wide (n - 1) Try.prog l (encT x) U fun e V => KeepsFrom W.heap.size U V ∧
      ((e = .returned (.bool true) ∧ J L (pre ++ [x]) V ∧ Keeps lo hi U V ∧ Keeps W.heap.size L U V) ∨ (e = .returned (.bool false) ∧ Jx L (pre ++ [x]) V))) :
    CallsIn Fence.wide n Try.prog 48 #[.func (.yield l) #[] #[], .pointer (some ⟨bx, 0, none⟩)] W fun e V => (∃ v, e = .returned v) ∧
      ((∃ L xs, W.heap.size ≤ L ∧ xs = tls p p.code.length ∧ J L xs V) ∨ (∃ L pre, W.heap.size ≤ L ∧ pre <+: tls p p.code.length ∧ Jx L pre V)) := by
  have HY := hide hY
  have HA := hide hA
  have HJ := hide hJ
  have HT := hide hT
  have H0 := hide h0
  have PX := hide hBx
  have HHI := hide hhi
  have HRR := hide hr
  have SO := hide (fun k hk => runS_ok HRR.out k hk)
  have LN := hide (show p.code.length ≤ 16384 from (right_parts HRR.out).2.2.2.1)
  have MB := hide ((right_parts HRR.out).2.2.2.2.2.2.2)
  have HP := hide hP
  clear hY hA hJ hT h0 hBx hhi hr hP
  refine callsIn_of_wp Try.func48 rfl trivial ?_ rfl
  simp only [Try.ntmps48, List.size_toArray, List.length_cons, List.length_nil, Nat.reduceAdd, Nat.reduceSub, Array.replicate_succ, Array.replicate_zero, List.push_toArray, List.append_toArray, List.nil_append, List.cons_append]
  refine wpIn_wide.2 ?_
  have c0 := PX.out.cell0
  have c1 := PX.out.cell1
  have c2 := PX.out.cell2
  have c3 := PX.out.cell3
  go_wp2_with fail
  refine (begin_any _ p _ HP.out HRR.out).mono ?_
  rintro e w1 ⟨⟨B, g, m, rfl, hk⟩, hb⟩
  have W0 := hide hb
  have BK := hide hk
  have JJ := hide (H0.out _ hb)
  have LB := hide (show B < w1.heap.size ∧ g < w1.heap.size ∧ m < w1.heap.size from ⟨hk.box.lt, hk.row.lt, hk.map.lt⟩)
  have GE := hide hk.ge
  have LW := hide hb.size
  have LU := hide (Nat.le_refl w1.heap.size)
  have KK := hide (show Keeps lo hi W w1 from fun k _ h2 => hb.block k (by have := HHI.out; omega))
  clear hb hk c0 c1 c2 c3
  have c2 := (PX.out.step W0.out).cell2
  obtain ⟨L, hL⟩ : ∃ L, L = w1.heap.size := ⟨_, rfl⟩
  rw [← hL] at LB LW JJ
  replace LU : Hid (L ≤ w1.heap.size) := hide (Nat.le_of_eq hL)
  clear hL
  go_wp2
  clear c2
  go_loopw [12, 4, 5, 6] (fun kv _ _ _ wr => ∃ k : Nat, k ≤ p.code.length ∧ kv = .int .i64 k ∧ J L (tls p k) wr ∧ L ≤ wr.heap.size ∧ Keeps lo hi W wr ∧ (∃ nn D, nn ≤ k ∧ BookAt wr W.heap.size B g m nn D (runS p k))) (fun kv _ _ _ _ => p.code.length - (intOf kv).toNat)
  case atStart => exact ⟨0, Nat.zero_le _, rfl, JJ.out, LU.out, KK.out, ⟨0, _, Nat.le_refl _, BK.out⟩⟩
  case round =>
    clear W0 BK JJ KK LU
    obtain ⟨k, hk, rfl, hj, hlu, hkk, ⟨nn, D, hn2, hbk⟩⟩ := hrel
    have JJ := hide hj
    have LU := hide hlu
    have KK := hide hkk
    have BK := hide hbk
    have NK := hide hn2
    clear hj hlu hkk hbk hn2
    by_cases hlt : k < p.code.length
    · have HM := hide (MB.out k hlt)
      have HS := hide (SO.out k hk)
      obtain ⟨b1, o1, rfl, g1, g2, hic0⟩ := HA.out k hlt
      have hic := KK.out.ins g1 g2 hic0
      clear hic0
      have PS : Hid (tls p k ++ [tl p k] <+: tls p p.code.length) := hide (by rw [← tls_succ]; exact tls_pre p _ _ (by omega))
      have EI : Hid (tls p (k + 1) = tls p k ++ [(k, (runS p k).val k (cd p.code k))] ∧ runS p (k + 1) = (runS p k).go k (cd p.code k)) := hide ⟨tls_succ p k, rfl⟩
      unfold tl at PS
      generalize hs : runS p k = s at *
      generalize hi' : cd p.code k = i at *
      clear hs hi'
      obtain ⟨op, to, a, b, c⟩ := i
      obtain ⟨t, rfl⟩ := Int.eq_ofNat_of_zero_le ((may_iff _ _).1 HM.out).2.1.1
      have i0 := hic.cell0
      have i1 := hic.cell1
      have i2 := hic.cell2
      have i3 := hic.cell3
      have i4 := hic.cell4
      dsimp only at i0 i1 i2 i3 i4
      clear hic
      have hln := LN.out
      go_upto_region 4 with fail
      have hb := below_alloc wr (.cells #[.int .i64 op, .int .i64 (t : Int), .int .i64 a, .int .i64 b, .int .i64 c] 40)
      have IX : Hid (Box5 (wr.alloc (.cells #[.int .i64 op, .int .i64 (t : Int), .int .i64 a, .int .i64 b, .int .i64 c] 40)) wr.heap.size 40 ⟨op, t, a, b, c⟩) := hide (Box5.new wr 40 ⟨op, t, a, b, c⟩)
      replace JJ := hide (own_belowL (HJ.out L) JJ.out hb)
      replace KK := hide (KK.out.trans (fun q _ h2 => hb.block q (by have := HHI.out; have := LW.out; have := LU.out; omega)))
      replace BK := hide (BK.out.below hb)
      replace LU := hide (Nat.le_trans LU.out hb.size)
      clear hb i0 i1 i2 i3 i4
      generalize wr.alloc (.cells #[.int .i64 op, .int .i64 (t : Int), .int .i64 a, .int .i64 b, .int .i64 c] 40) = w5 at *
      generalize wr.heap.size = X at *
      have k0 := IX.out.cells.cell0
      have k1 := IX.out.cells.cell1
      have k2 := IX.out.cells.cell2
      have k3 := IX.out.cells.cell3
      have k4 := IX.out.cells.cell4
      simp only [Nat.zero_add] at k1 k2 k3 k4
      go_wp2_with fail
      refine (reckon_any p k ⟨op, t, a, b, c⟩ _ W.heap.size B g m nn D s BK.out HS.out HRR.out HM.out (by have := LN.out; omega) (by have := LN.out; have := NK.out; omega)).mono ?_
      rintro e w6 ⟨rfl, ⟨D', n', hn', hbk⟩, hst⟩
      have HTU := hide (hst.turns GE.out LB.out)
      replace IX := hide (BK.out.still_ins IX.out hst)
      replace JJ := hide (HT.out L _ _ _ LW.out LU.out JJ.out HTU.out)
      replace KK := hide (KK.out.trans (HTU.out.keeps (a := lo) HHI.out (by have := HHI.out; have := LW.out; have := LU.out; omega)))
      replace LU := hide (Nat.le_trans LU.out hst.bel.size)
      replace BK := hide hbk
      replace NK := hide (show n' ≤ k + 1 by have := NK.out; omega)
      clear hst hbk hn' HTU k0 k1 k2 k3 k4
      have HH := hide (aft_held s k ⟨op, t, a, b, c⟩)
      have ht : t < s.held.length := by have h1 := ((may_iff _ _).1 HM.out).2.1; have h2 := HS.out.len; dsimp only at h1; omega
      have HTL := hide ht
      clear ht
      generalize hv : s.val (k : Int) ⟨op, t, a, b, c⟩ = uv at *
      have HU := hide hv
      clear hv
      obtain ⟨u, u2⟩ := uv
      dsimp only
      go_upto_region 5 with fail
      have hb := below_alloc w6 (.cells #[.int .i64 u, .int .i64 u2] 60)
      have EX := hide (Box2.new w6 60 (.int .i64 u) (.int .i64 u2))
      replace IX := hide (IX.out.step hb)
      replace JJ := hide (own_belowL (HJ.out L) JJ.out hb)
      replace KK := hide (KK.out.trans (fun q _ h2 => hb.block q (by have := HHI.out; have := LW.out; have := LU.out; omega)))
      replace BK := hide (BK.out.below hb)
      have GX := hide LU.out
      replace LU := hide (Nat.le_trans LU.out hb.size)
      clear hb
      generalize w6.alloc (.cells #[.int .i64 u, .int .i64 u2] 60) = w7 at *
      generalize w6.heap.size = E at *
      have k0 := IX.out.cells.cell0
      have k1 := IX.out.cells.cell1
      have k2 := IX.out.cells.cell2
      have k3 := IX.out.cells.cell3
      have k4 := IX.out.cells.cell4
      simp only [Nat.zero_add] at k1 k2 k3 k4
      have e0 := EX.out.cell0
      have e1 := EX.out.cell1
      have c0 := BK.out.box.cell0
      rw [HH.out] at c0
      have r1 := BK.out.row.cell (j := t) (by rw [HH.out]; exact HTL.out)
      rw [HH.out] at r1
      have hx := HTL.out
      have hf := BK.out.row.free t
      have LB2 := BK.out.box.lt
      have LX := IX.out.lt
      have LE := EX.out.lt
      go_region
      have HTU := hide (Turns.drew (Turns.set (lo := W.heap.size) (hi := L) (o := t) w7 (.int .i64 u) GE.out.2.1 LB.out.2.1))
      have NGE : g ≠ E := by have := LB.out; have := GX.out; omega
      replace EX := hide (Box2.drew (EX.out.set_ne (C := g) (o := t) NGE (.int .i64 u)))
      replace JJ := hide (HT.out L _ _ _ LW.out LU.out JJ.out HTU.out)
      replace KK := hide (KK.out.trans (HTU.out.keeps (a := lo) HHI.out (by have := HHI.out; have := LW.out; have := LU.out; omega)))
      replace LU := hide (Nat.le_trans LU.out HTU.out.bel.size)
      have hbs := BK.out.set t u
      rw [Int.toNat_natCast] at hbs
      replace BK := hide hbs.drew
      clear hbs HTU k0 k1 k2 k3 k4 e0 e1 c0 r1 hx hf LB2 LX LE NGE IX
      generalize (w7.setCell ⟨g, t, none⟩ (.int .i64 u)).drew = w8 at *
      have e0 := EX.out.cell0
      have e1 := EX.out.cell1
      obtain ⟨fn1, tm1, as1, bd1, hy1, hr1⟩ := HY.out L _ (k, u, u2) w8 LW.out LU.out JJ.out PS.out
      have R1 := hide hr1
      unfold encT at hy1
      dsimp only at hy1
      clear hr1
      simp only [Exit.then]
      refine (by assumption : ∀ a w, Code.wp Try.prog _ _ a w → _) _ _ ?_
      refine (wpIn_wide (n := n)).1 ?_
      gi_wp2
      refine R1.out.mono ?_
      rintro e V ⟨kf, (⟨rfl, j1, ka, kb⟩ | ⟨rfl, jx⟩)⟩
      · have J3 := hide j1
        have K3 := hide (KK.out.trans ka)
        have B3 := hide (BK.out.kept kb GE.out LB.out)
        have L3 : Hid (L ≤ V.heap.size) := hide (Nat.le_trans LU.out kf.size)
        clear hy1 R1 ka kb j1 e0 e1 kf
        gi_wp2
        go_wp2
        go_roundw
        case rel => exact ⟨k + 1, by omega, by go_num, by rw [EI.out.1]; exact J3.out, L3.out, K3.out, ⟨n', D', NK.out, by rw [EI.out.2]; unfold ShS.go; rw [HU.out]; exact B3.out⟩⟩
        case measure => simp [intOf]; omega
      · clear hy1 R1 e0 e1 kf
        gi_wp2
        refine bodyPost_ret (results_none rfl _ _ _) rfl ?_
        exact ⟨⟨_, rfl⟩, .inr ⟨L, _, LW.out, PS.out, jx⟩⟩
    · have e : k = p.code.length := by omega
      subst e
      go_wp2
      go_end0
      exact ⟨⟨_, rfl⟩, .inl ⟨L, _, LW.out, rfl, JJ.out⟩⟩
theorem thr_yields (n : Nat) (hn : 1 ≤ n) (bx lo hi : Nat) (p : Pg) (ca oa : Option Addr) (cc oc : Nat) (hr : rightB p = true) (w : World)
    (hBx : Box4 w bx 25 (.int .i64 p.ins) (.int .i64 p.regs) (.slice ca p.code.length cc) (.slice oa p.outs.length oc))
    (hP : PgAt w (.agg #[.int .i64 p.ins, .int .i64 p.regs, .slice ca p.code.length cc, .slice oa p.outs.length oc]) p)
    (hA : ∀ i, i < p.code.length → ∃ b off, ca = some ⟨b, off, none⟩ ∧ lo ≤ b ∧ b < hi ∧ InsC w b (off + i * 5) (cd p.code i)) (hhi : hi ≤ w.heap.size) :
    YieldsL n Try.prog 48 #[.pointer (some ⟨bx, 0, none⟩)] encT lo hi (fun xs => xs = tls p p.code.length) (fun pre => pre <+: tls p p.code.length) w := by
  intro l J Jx W hW hJ _ hT h0 hY
  refine thr_in n hn l bx lo hi p ca oa cc oc hr J Jx W (hBx.step hW) (hP.below hW) (fun i hi' => ?_) (Nat.le_trans hhi hW.size) hJ hT h0 hY
  obtain ⟨b, off, e, h1, h2, h3⟩ := hA i hi'
  exact ⟨b, off, e, h1, h2, h3.step hW⟩
end Go.Proofs.Ytclopelniopjkaa
