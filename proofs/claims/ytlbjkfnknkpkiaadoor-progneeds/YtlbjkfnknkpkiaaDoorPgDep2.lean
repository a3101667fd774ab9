/- prog.Depth. -/
import Derived.Test.YtlbjkfnknkpkiaaDoorPgDep
import Derived.Test.YtlbjkfnknkpkiaaDoorPgJoin1
namespace Go.Proofs.YtlbjkfnknkpkiaaDoor
open Go.RowKit

theorem OwnO.store {w : World} {base g c t : Nat} {d : Int} {L : List Int} (h : OwnO w base (.slice (some ⟨g, 0, none⟩) L.length c) L) : OwnO (w.setCell ⟨g, t, none⟩ (.int .i64 d)) base (.slice (some ⟨g, 0, none⟩) L.length c) (L.set t d) := by
  have e : (L.set t d).length = L.length := List.length_set ..
  show World.ownsRow _ _ _ _ _ (L.set t d).length _
  rw [e]
  refine ⟨by simp [intCells], .inr ?_⟩
  rcases h.2 with ⟨h0, _⟩ | ⟨g', cap, cur, h0, hg, hh, h1, h2, h3, h4⟩
  · cases h0
  · simp only [Value.slice.injEq, Option.some.injEq, Addr.mk.injEq, true_and, and_true] at h0
    obtain ⟨rfl, rfl⟩ := h0
    refine ⟨g, c, cur.setIfInBounds t (.int .i64 d), rfl, hg, ?_, h1, h2, by simpa using h3, ?_⟩
    · obtain ⟨hlt, hk⟩ := Array.getElem?_eq_some_iff.1 hh
      show (w.heap.modify g _)[g]? = _
      rw [Array.getElem?_eq_getElem (by rw [Array.size_modify]; exact hlt), Array.getElem_modify_self, hk]
      rfl
    · rw [Array.toList_setIfInBounds, List.take_set, h4]
      simp [intCells, List.map_set]
theorem OwnO.drew {w : World} {base : Nat} {v : Value} {l : List Int} (h : OwnO w base v l) : OwnO w.drew base v l := h
theorem made_zero (n : Nat) : (madeCells #[.int .i64 0] n).toList = intCells (List.replicate n 0) := by
  rw [toList_madeCells_one]; simp [intCells]
theorem ot_replicate (n k : Nat) : ot (List.replicate n 0) k = 0 := by
  unfold ot
  rw [List.getD_eq_getElem?_getD, List.getElem?_replicate]
  split <;> rfl
theorem dAt_set {L : List Int} {t : Nat} {d : Int} (ht : t < L.length) (r : Int) (hr : 0 ≤ r) : dAt (L.set t d) r = if r = t then d else dAt L r := by
  unfold dAt ot
  rw [List.getD_eq_getElem?_getD, List.getElem?_set]
  by_cases h : r = t
  · subst h
    simp [ht]
  · have : ¬ t = r.toNat := by omega
    rw [if_neg this, if_neg h, List.getD_eq_getElem?_getD]
theorem drun_take (l : List Ins) (k : Nat) (h : k < l.length) (d : Int → Int) : drun d (l.take (k + 1)) = dstep (drun d (l.take k)) (cd l k) := by
  rw [List.take_succ_eq_append_getElem h, drun_append, ← cd_lt h]; rfl
theorem asks_may {i : Ins} {regs : Int} (h : mayB i regs = true) : ∀ r ∈ asksL i, 0 ≤ r ∧ r < regs := by
  obtain ⟨_, _, m3, m4, m5, m6, _⟩ := may_parts h
  intro r hr
  unfold asksL at hr
  split at hr
  · simp only [List.mem_cons, List.not_mem_nil, or_false] at hr
    rcases hr with rfl | rfl
    · exact ⟨m3, m4⟩
    · exact ⟨m5, m6⟩
  · split at hr
    · simp only [List.mem_cons, List.not_mem_nil, or_false] at hr
      subst hr
      exact ⟨m3, m4⟩
    · cases hr
theorem ot_mem {l : List Int} {k : Nat} (h : k < l.length) : ot l k ∈ l := by rw [ot_lt h]; exact List.getElem_mem h
/-- the list holds the depths behind k instructions -/
def DL (p : Pg) (k : Nat) (L : List Int) : Prop := (L.length : Int) = p.regs ∧ ∀ r, 0 ≤ r → r < p.regs → dAt L r = drun (fun _ => 0) (p.code.take k) r ∧ 0 ≤ dAt L r ∧ dAt L r ≤ k
theorem DL.dmax {p : Pg} {k : Nat} {L l : List Int} (h : DL p k L) (hl : ∀ r ∈ l, 0 ≤ r ∧ r < p.regs) : dmax (dAt L) l = dmax (drun (fun _ => 0) (p.code.take k)) l ∧ 0 ≤ dmax (dAt L) l ∧ dmax (dAt L) l ≤ k :=
  ⟨dmax_congr (fun r hr => (h.2 r (hl r hr).1 (hl r hr).2).1), dmax_nonneg, dmax_le (by omega) (fun r hr => (h.2 r (hl r hr).1 (hl r hr).2).2.2)⟩
theorem DL.next {p : Pg} {k : Nat} {L : List Int} (h : DL p k L) (hk : k < p.code.length) (hm : mayB (cd p.code k) p.regs = true) {t : Nat} (ht : (cd p.code k).to = t) : DL p (k + 1) (L.set t (1 + Go.Proofs.YtlbjkfnknkpkiaaDoor.dmax (dAt L) (asksL (cd p.code k)))) := by
  obtain ⟨m1, m2, _⟩ := may_parts hm
  obtain ⟨e1, e2, e3⟩ := h.dmax (asks_may hm)
  have htl : t < L.length := by have := h.1; omega
  refine ⟨by rw [List.length_set]; exact h.1, fun r h0 h1 => ?_⟩
  obtain ⟨a1, a2, a3⟩ := h.2 r h0 h1
  rw [dAt_set htl r h0, drun_take _ _ hk]
  unfold dstep
  rw [ht]
  by_cases hr : r = t
  · rw [if_pos hr, if_pos hr, e1]
    rw [e1] at e2 e3
    refine ⟨rfl, by omega, by omega⟩
  · rw [if_neg hr, if_neg hr]
    exact ⟨a1, a2, by omega⟩

set_option maxRecDepth 100000 in
set_option maxHeartbeats 8000000 in
theorem depth_wrong (v : Value) (p : Pg) (w : World) (h : PgAt w v p) (hr : rightB p = false) :
    Calls Tryd.prog 20 #[v] w fun e w' => e = .returned (.tuple #[.int .i64 0, .int .i64 80]) ∧ Below w.heap.size w w' := by
  have HP := hide h
  obtain ⟨ca, cc, oa, oc, rfl, _, _⟩ := h
  go_enter Tryd.func20, Tryd.ntmps20
  go_upto_region 1 with fail
  have hb := below_alloc w (.cells #[.int .i64 p.ins, .int .i64 p.regs, .slice ca p.code.length cc, .slice oa p.outs.length oc] 25)
  have PX := hide (Box4.new w 25 (.int .i64 p.ins) (.int .i64 p.regs) (.slice ca p.code.length cc) (.slice oa p.outs.length oc))
  replace HP := hide (HP.out.below hb)
  have HB := hide hb
  clear hb
  generalize w.alloc (.cells #[.int .i64 p.ins, .int .i64 p.regs, .slice ca p.code.length cc, .slice oa p.outs.length oc] 25) = w1 at *
  obtain ⟨B, hB⟩ : ∃ B, B = w.heap.size := ⟨_, rfl⟩
  have HZ := hide hB
  rw [← hB] at PX ⊢
  clear hB
  have c0 := PX.out.cell0
  have c1 := PX.out.cell1
  have c2 := PX.out.cell2
  have c3 := PX.out.cell3
  go_wp2_with fail
  refine (check_any _ p _ HP.out).mono ?_
  rintro e w2 ⟨rfl, hb⟩
  replace HB := hide (HB.out.trans (hb.mono HB.out.size))
  clear hb
  rw [ck_wrong hr]
  generalize chkK p = kk
  go_wp2
  go_ret2
  exact ⟨rfl, HB.out⟩

set_option maxRecDepth 100000 in
set_option maxHeartbeats 8000000 in
theorem depth_right (v : Value) (p : Pg) (w : World) (h : PgAt w v p) (hr : rightB p = true) :
    Calls Tryd.prog 20 #[v] w fun e w' => e = .returned (.tuple #[.int .i64 (dep p), .int .i64 0]) ∧ Below w.heap.size w w' := by
  obtain ⟨i0, hi, hz0, hz1, hz2⟩ := info_parts info_int
  have HP := hide h
  obtain ⟨ca, cc, oa, oc, rfl, hc, ho⟩ := h
  have KC := hide hc
  have KO := hide ho
  clear hc ho
  obtain ⟨p1, p2, p3, p4, p5, p6, p7, p8⟩ := right_parts hr
  have P7 := hide p7
  have P8 := hide p8
  clear p7 p8
  obtain ⟨n, hn⟩ : ∃ n : Nat, p.regs = n := ⟨p.regs.toNat, by omega⟩
  have HN := hide hn
  go_enter Tryd.func20, Tryd.ntmps20
  clear hn
  go_upto_region 1 with fail
  have hb := below_alloc w (.cells #[.int .i64 p.ins, .int .i64 p.regs, .slice ca p.code.length cc, .slice oa p.outs.length oc] 25)
  have PX := hide (Box4.new w 25 (.int .i64 p.ins) (.int .i64 p.regs) (.slice ca p.code.length cc) (.slice oa p.outs.length oc))
  replace HP := hide (HP.out.below hb)
  have HB := hide hb
  clear hb
  generalize w.alloc (.cells #[.int .i64 p.ins, .int .i64 p.regs, .slice ca p.code.length cc, .slice oa p.outs.length oc] 25) = w1 at *
  obtain ⟨B, hB⟩ : ∃ B, B = w.heap.size := ⟨_, rfl⟩
  have HZ := hide hB
  rw [← hB] at PX ⊢
  clear hB
  have c0 := PX.out.cell0
  have c1 := PX.out.cell1
  have c2 := PX.out.cell2
  have c3 := PX.out.cell3
  go_wp2_with fail
  refine (check_any _ p _ HP.out).mono ?_
  rintro e w2 ⟨rfl, hb⟩
  replace PX := hide (PX.out.step hb)
  replace HB := hide (HB.out.trans (hb.mono HB.out.size))
  clear hb c0 c1 c2 c3
  rw [ck_right hr]
  have HW2 := hide HB.out.size
  have c0 := PX.out.cell0
  have c1 := PX.out.cell1
  have c2 := PX.out.cell2
  have c3 := PX.out.cell3
  have hn := HN.out
  rw [hn] at c1
  go_wp2_with (at_make; refine wpList_make_full _ rfl _ _ 23 rfl w2.heap.size 3 i0 (.int .i64 0) 1 Tryd.underlying23 hi hz0 hz1 _ _ _ _ n rfl rfl rfl rfl (by rw [hz2]; omega) (by unfold maxLen; omega) (Nat.le_refl _) ?_)
  intro w3 hown hgrow
  have hb : Below w2.heap.size w2 w3 := (Below.refl _ _).grown hgrow (Nat.le_refl _) (fun k hk => by simp at hk)
  replace PX := hide (PX.out.step hb)
  replace HB := hide (HB.out.trans (hb.mono HB.out.size))
  have OD : Hid (OwnO w3 w2.heap.size (.slice (some ⟨w2.heap.size, 0, none⟩) (List.replicate n (0 : Int)).length n) (List.replicate n 0)) := hide (by show World.ownsRow _ _ _ _ _ (List.replicate n (0 : Int)).length _; rw [List.length_replicate, ← made_zero]; simpa using hown)
  clear hown hgrow hb c0 c1 c2 c3
  have WG : Hid (w.heap.size ≤ w2.heap.size) := hide HW2.out
  generalize w2.heap.size = g at *
  rw [List.length_replicate] at OD
  have c0 := PX.out.cell0
  have c1 := PX.out.cell1
  have c2 := PX.out.cell2
  have c3 := PX.out.cell3
  go_upto_region 6 with fail
  clear c0 c1 c2 c3 hn
  have Z0 : Hid (DL p 0 (List.replicate n 0)) := hide ⟨by rw [List.length_replicate]; exact HN.out.symm, fun r _ _ => by unfold dAt; rw [ot_replicate]; exact ⟨rfl, Int.le_refl _, Int.le_refl _⟩⟩
  have BB := hide (Nat.le_refl g)
  clear BB
  go_loopw [23, 8] (fun kv _ wr => ∃ (k : Nat) (L : List Int), k ≤ p.code.length ∧ kv = .int .i64 k ∧ L.length = n ∧ Below w.heap.size w wr ∧ Box4 wr B 25 (.int .i64 p.ins) (.int .i64 p.regs) (.slice ca p.code.length cc) (.slice oa p.outs.length oc) ∧ OwnO wr w.heap.size (.slice (some ⟨g, 0, none⟩) L.length n) L ∧ DL p k L) (fun kv _ _ => p.code.length - (intOf kv).toNat)
  case atStart => exact ⟨0, List.replicate n 0, Nat.zero_le _, rfl, List.length_replicate .., HB.out, PX.out, by rw [List.length_replicate]; exact own_base OD.out WG.out, Z0.out⟩
  case round =>
    clear HB PX OD Z0
    obtain ⟨k, L, hk, rfl, hL, hB, hP, hO, hD⟩ := hrel
    have HB := hide hB
    have PX := hide hP
    have OD := hide hO
    have DD := hide hD
    have LL := hide hL
    clear hB hP hO hD
    by_cases hlt : k < p.code.length
    · have k1 := (KC.out.below HB.out).at hlt
      obtain ⟨b, off, rfl, k1⟩ := k1
      obtain ⟨x, hx⟩ : ∃ x, x = cd p.code k := ⟨_, rfl⟩
      rw [← hx] at k1
      have HX := hide hx
      have MY := hide (P8.out k hlt)
      rw [← hx] at MY
      clear hx
      obtain ⟨t, ht⟩ : ∃ t : Nat, x.to = t := ⟨x.to.toNat, by have := (may_parts MY.out).1; omega⟩
      have HT := hide ht
      have TL : Hid (t < L.length) := hide (by have := (may_parts MY.out).2.1; have := HN.out; omega)
      clear ht
      have k10 := k1.cell0
      have k11 := k1.cell1
      have k12 := k1.cell2
      have k13 := k1.cell3
      have k14 := k1.cell4
      clear k1 hL
      go_upto_region 8 with fail
      clear k10 k11 k12 k13 k14
      have hb := below_alloc wr (.cells x.vals 36)
      have IX := hide (Box5.new wr 36 x)
      replace PX := hide (PX.out.step hb)
      replace OD := hide (own_below OD.out hb)
      replace HB := hide (HB.out.trans (hb.mono HB.out.size))
      clear hb
      unfold Ins.vals at IX PX OD HB
      generalize wr.alloc (.cells #[.int .i64 x.op, .int .i64 x.to, .int .i64 x.a, .int .i64 x.b, .int .i64 x.c] 36) = w4 at *
      generalize wr.heap.size = gi at *
      obtain ⟨d1, d2, d3⟩ := DD.out.dmax (asks_may MY.out)
      clear d1
      obtain ⟨D, hDD⟩ : ∃ D, D = dmax (dAt L) (asksL x) := ⟨_, rfl⟩
      rw [← hDD] at d2 d3
      have HD := hide hDD
      clear hDD
      have AR : Hid (∀ j, j < (asksL x).length → 0 ≤ ot (asksL x) j ∧ ot (asksL x) j < L.length) := hide (fun j hj => by have := asks_may MY.out _ (ot_mem hj); have h1 := LL.out; have h2 := HN.out; omega)
      have tl := TL.out
      have AS : Hid (∀ w, Calls Tryd.prog 14 #[.agg #[.int .i64 x.op, .int .i64 (t : Int), .int .i64 x.a, .int .i64 x.b, .int .i64 x.c]] w fun e w' => AsksR w' e x ∧ Below w.heap.size w w') := hide (fun w => by rw [← HT.out]; exact asks_any x w)
      have WP : Hid (IntKind.i64.wrap (1 + D) = 1 + D) := hide (wr64 (by omega) (by omega))
      refine wp_calm (fun w' => Below w.heap.size w w' ∧ Box4 w' B 25 (.int .i64 p.ins) (.int .i64 p.regs) (.slice (some ⟨b, off, none⟩) p.code.length cc) (.slice oa p.outs.length oc) ∧ OwnO w' w.heap.size (.slice (some ⟨g, 0, none⟩) L.length n) L ∧ Box5 w' gi 36 x) (fun j => j != 8 && j != 9) 10 #[false, false, false, false, false, false, false, false, false, false] (by kernel_rfl) rfl rfl ?_
      have HF := hide (And.intro HB.out.drew (And.intro PX.out.drew (And.intro (OwnO.drew OD.out) IX.out.drew)))
      generalize w4.drew = w4d at *
      refine Calm.takeL 10 (i := 0) (v := ?_) (a' := ?_) (l' := #[true, false, false, false, false, false, false, false, false, false]) (d := some 27) (by kernel_rfl) rfl (by kernel_rfl) (by kernel_rfl) (by kernel_rfl) (by kernel_rfl) (fun _ _ _ h => h) HF.out rfl ?_ rfl rfl ?_ ?_
      rotate_left
      · intro w' hF; clear hF; go_simp; try rfl
      rotate_left
      · simp only [Act.put]; exact rfl
      refine Calm.takeL 10 (i := 1) (v := ?_) (a' := ?_) (l' := #[true, true, false, false, false, false, false, false, false, false]) (d := some 28) (by kernel_rfl) rfl (by kernel_rfl) (by kernel_rfl) (by kernel_rfl) (by kernel_rfl) (fun _ _ _ h => h) HF.out rfl ?_ rfl rfl ?_ ?_
      rotate_left
      · intro w' hF; clear hF; go_simp; try rfl
      rotate_left
      · simp only [Act.put]; exact rfl
      refine Calm.takeL 10 (i := 2) (v := ?_) (a' := ?_) (l' := #[true, true, true, false, false, false, false, false, false, false]) (d := some 29) (by kernel_rfl) rfl (by kernel_rfl) (by kernel_rfl) (by kernel_rfl) (by kernel_rfl) (fun _ _ _ h => h) HF.out rfl ?_ rfl rfl ?_ ?_
      rotate_left
      · intro w' hF; have f2 := hF.2.2.2.cells.cell0; have f3 := hF.2.2.2.cells.cell1; have f4 := hF.2.2.2.cells.cell2; have f5 := hF.2.2.2.cells.cell3; have f6 := hF.2.2.2.cells.cell4; simp only [Nat.zero_add] at f3 f4 f5 f6; rw [HT.out] at f3; clear hF; go_simp; try rfl
      rotate_left
      · simp only [Act.put]; exact rfl
      refine Calm.takeL 10 (i := 3) (v := ?_) (a' := ?_) (l' := #[true, true, true, true, false, false, false, false, false, false]) (d := some 30) (by kernel_rfl) rfl (by kernel_rfl) (by kernel_rfl) (by kernel_rfl) (by kernel_rfl) (fun _ _ _ h => h) HF.out rfl ?_ rfl rfl ?_ ?_
      rotate_left
      · intro w' hF; clear hF; go_simp; try rfl
      rotate_left
      · simp only [Act.put]; exact rfl
      refine Calm.takeL 10 (i := 4) (v := ?_) (a' := ?_) (l' := #[true, true, true, true, true, false, false, false, false, false]) (d := some 31) (by kernel_rfl) rfl (by kernel_rfl) (by kernel_rfl) (by kernel_rfl) (by kernel_rfl) (fun _ _ _ h => h) HF.out rfl ?_ rfl rfl ?_ ?_
      rotate_left
      · intro w' hF; have f2 := hF.2.2.2.cells.cell0; have f3 := hF.2.2.2.cells.cell1; have f4 := hF.2.2.2.cells.cell2; have f5 := hF.2.2.2.cells.cell3; have f6 := hF.2.2.2.cells.cell4; simp only [Nat.zero_add] at f3 f4 f5 f6; rw [HT.out] at f3; clear hF; go_simp; try rfl
      rotate_left
      · simp only [Act.put]; exact rfl
      refine Calm.one (i := 5) (l' := #[true, true, true, true, true, true, false, false, false, false]) (by kernel_rfl) rfl rfl rfl fun K hK => ?_
      go_simp
      refine (AS.out _).mono ?_
      rintro e wa ⟨⟨va, rfl, hva⟩, hb⟩
      obtain ⟨a1, c1', rfl, _, _, _⟩ := id hva
      have HF' := hide (And.intro (HF.out.1.trans ((hb).mono HF.out.1.size)) (And.intro (HF.out.2.1.step (hb)) (And.intro (HF.out.2.2.1.below (hb)) (HF.out.2.2.2.step (hb)))))
      have VA := hide (hva)
      refine hK _ _ (fun _ => HF'.out) ?_
      clear hK K HF hb hva
      have HF := hide HF'.out
      clear HF'
      refine Calm.one (i := 6) (l' := #[true, true, true, true, true, true, true, false, false, false]) (by kernel_rfl) rfl rfl rfl fun K hK => ?_
      go_simp
      have hI := OwnO.at HF.out.2.2.1
      rw [LL.out] at hI
      refine (deepest_any _ _ L (asksL x) _ hI VA.out AR.out).mono ?_
      clear hI
      rintro e wd ⟨hw, rfl⟩
      rw [← HD.out]
      have hb : Below wa.heap.size wa wd := by rw [hw]; exact Below.refl _ _
      clear hw
      clear VA
      have HF' := hide (And.intro (HF.out.1.trans ((hb).mono HF.out.1.size)) (And.intro (HF.out.2.1.step (hb)) (And.intro (HF.out.2.2.1.below (hb)) (HF.out.2.2.2.step (hb)))))
      refine hK _ _ (fun _ => HF'.out) ?_
      clear hK K HF hb
      have HF := hide HF'.out
      clear HF'
      refine Calm.takeL 10 (i := 7) (v := ?_) (a' := ?_) (l' := #[true, true, true, true, true, true, true, true, false, false]) (d := some 34) (by kernel_rfl) rfl (by kernel_rfl) (by kernel_rfl) (by kernel_rfl) (by kernel_rfl) (fun _ _ _ h => h) HF.out rfl ?_ rfl rfl ?_ ?_
      rotate_left
      · intro w' hF; clear hF; go_simp; try rfl
      rotate_left
      · simp only [Act.put]; exact rfl
      refine Calm.one (i := 8) (l' := #[true, true, true, true, true, true, true, true, true, false]) (by kernel_rfl) rfl rfl rfl fun K hK => ?_
      simp only [WP.out]
      have tn : t < n := by have := TL.out; have := LL.out; omega
      go_simp
      refine hK _ _ (fun h => absurd h (by decide)) ?_
      clear hK K
      refine Calm.one (i := 9) (l' := #[true, true, true, true, true, true, true, true, true, true]) (by kernel_rfl) rfl rfl rfl fun K hK => ?_
      have hs := (OwnO.at HF.out.2.2.1).at TL.out
      obtain ⟨g', o', hg', hs⟩ := hs
      simp only [Option.some.injEq, Addr.mk.injEq, and_true] at hg'
      obtain ⟨rfl, rfl⟩ := hg'
      simp only [Nat.zero_add] at hs
      have hf := World.ownsRow.frozenAt HF.out.2.2.1 t
      go_simp
      refine hK _ _ (fun h => absurd h (by decide)) ?_
      clear hK K
      refine Calm.done (by kernel_rfl) ?_
      have OS := hide (OwnO.store (t := t) (d := 1 + D) HF.out.2.2.1)
      have PS := hide (HF.out.2.1.set_ne (C := g) (o := t) (by intro e; subst e; exact box_row_ne HF.out.2.1 HF.out.2.2.1 (by decide) rfl) (.int .i64 (1 + D)))
      have HS := hide (HF.out.1.setCell (p := ⟨g, t, none⟩) WG.out (.int .i64 (1 + D)))
      clear HF hs hf
      go_wp2
      go_roundw
      case rel =>
        refine ⟨k + 1, L.set t (1 + D), by omega, by go_num, by rw [List.length_set]; exact LL.out, HS.out, PS.out, by rw [List.length_set]; exact OS.out, ?_⟩
        rw [HD.out, HX.out]
        exact DD.out.next hlt (by rw [← HX.out]; exact MY.out) (by rw [← HX.out]; exact HT.out)
      case measure => simp [intOf]; omega
    · have e : k = p.code.length := by omega
      subst e
      have c3 := PX.out.cell3
      go_wp2_with fail
      have hI := OwnO.at OD.out
      rw [LL.out] at hI
      refine (deepest_any _ _ L p.outs _ hI (KO.out.below HB.out) (fun j hj => by have := P7.out j hj; have := HN.out; omega)).mono ?_
      rintro e wd ⟨hw, rfl⟩
      obtain rfl : wr = wd := hw.symm
      clear hw
      have ED : Hid (dmax (dAt L) p.outs = dep p) := hide (by unfold dep; rw [(DD.out.dmax (l := p.outs) (fun r hr => by obtain ⟨j, hj, rfl⟩ := List.mem_iff_getElem.1 hr; have := P7.out j hj; rwa [ot_lt hj] at this)).1, List.take_length])
      rw [ED.out]
      go_wp2
      go_ret2
      exact ⟨rfl, HB.out⟩
end Go.Proofs.YtlbjkfnknkpkiaaDoor
