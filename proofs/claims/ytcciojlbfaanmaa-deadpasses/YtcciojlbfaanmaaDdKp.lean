/- dead.kept: the instructions that are not idle. -/
import Derived.Test.YtcciojlbfaanmaaDdIa
import Derived.Test.YtcciojlbfaanmaaPgApp
import Derived.Test.YtcciojlbfaanmaaCalmL
namespace Go.Proofs.Ytcciojlbfaanmaa
open Go.RowKit Go.Shelf
attribute [local go_sem] Oper.semAt_some

theorem rowKeep {w W' : World} {base : Nat} {e : TypeId} {size n : Nat} {v : Value} {xs : List Value} (h : w.ownsRow base e size v n xs) (k : ∀ (g : Nat) (o : Obj), w.heap[g]? = some o → o.isCells = true → W'.heap[g]? = some o) : W'.ownsRow base e size v n xs := by
  refine ⟨h.1, ?_⟩
  rcases h.2 with h0 | ⟨g, cap, cur, rfl, hg, hh, r⟩
  · exact .inl h0
  · exact .inr ⟨g, cap, cur, rfl, hg, k _ _ hh rfl, r⟩
theorem rowSet {w : World} {base b o : Nat} {e t : TypeId} {size n : Nat} {v u : Value} {xs : List Value} {cs : Array Value} {f : Nat × Nat} (h : w.ownsRow base e size v n xs) (hb : w.heap[b]? = some (.cells cs t f)) (hne : e ≠ t) : (w.setCell ⟨b, o, none⟩ u).ownsRow base e size v n xs := by
  refine ⟨h.1, ?_⟩
  rcases h.2 with h0 | ⟨g, cap, cur, rfl, hg, hh, r⟩
  · exact .inl h0
  · refine .inr ⟨g, cap, cur, rfl, hg, (Below.heap_setCell w ⟨b, o, none⟩ u g (fun e1 => ?_)).trans hh, r⟩
    have e1 : g = b := e1
    subst e1
    rw [hb] at hh
    simp only [Option.some.injEq, Obj.cells.injEq] at hh
    exact hne hh.2.1.symm
/-- what stands while the gaps are told -/
structure KP (w : World) (B0 Bc Bx lo hi : Nat) (t4 : Value × Value × Value × Value) (vc : Value) (l : List Ins) (a : Nat) (Z : World) : Prop where
  bel : Below w.heap.size w Z
  px : Box4 Z B0 25 t4.1 t4.2.1 t4.2.2.1 t4.2.2.2
  cx : Boxed Z Bc 22 vc
  nx : Boxed Z Bx 3 (.int .i64 (a : Nat))
  oc : OwnC Z hi vc l
  sz : hi ≤ Z.heap.size
  ge : w.heap.size ≤ B0 ∧ B0 < Bc ∧ Bc < Bx ∧ Bx < lo ∧ lo ≤ hi
section
variable {w Z Z' : World} {B0 Bc Bx lo hi a : Nat} {t4 : Value × Value × Value × Value} {vc : Value} {l : List Ins}
theorem KP.keep (h : KP w B0 Bc Bx lo hi t4 vc l a Z) (hb : Below w.heap.size w Z') (hs : Z.heap.size ≤ Z'.heap.size) (e : ∀ (k : Nat) (o : Obj), Z.heap[k]? = some o → o.isCells = true → Z'.heap[k]? = some o) : KP w B0 Bc Bx lo hi t4 vc l a Z' :=
  ⟨hb, e _ _ h.px rfl, e _ _ h.cx rfl, e _ _ h.nx rfl, rowKeep h.oc e, Nat.le_trans h.sz hs, h.ge⟩
theorem KP.below (h : KP w B0 Bc Bx lo hi t4 vc l a Z) (hb : Below Z.heap.size Z Z') : KP w B0 Bc Bx lo hi t4 vc l a Z' :=
  h.keep (h.bel.trans (hb.mono h.bel.size)) hb.size (fun k _ h1 _ => (hb.block k (Array.getElem?_eq_some_iff.1 h1).1).trans h1)
theorem KP.grow (h : KP w B0 Bc Bx lo hi t4 vc l a Z) (hg : Z.grownBy Z' vc.ownBlock) : Boxed Z' Bc 22 vc :=
  (hg.block Bc h.cx.lt (fun e => by have := (World.ownsRow.lt h.oc Bc e.symm).1; have := h.ge; omega)).trans h.cx
theorem KP.cells (h : KP w B0 Bc Bx lo hi t4 vc l a Z) {r : Nat} (e : vc.ownBlock = some r) : (r < lo ∨ hi ≤ r) ∧ ∃ cs t f, Z.heap[r]? = some (.cells cs t f) := by
  rcases h.oc.2 with ⟨rfl, _⟩ | ⟨g, cap, cur, rfl, hg, hh, _⟩
  · cases e
  · have e1 : g = r := by simpa [Value.ownBlock] using e
    subst e1
    exact ⟨.inr hg, _, _, _, hh⟩
theorem KP.next (h : KP w B0 Bc Bx lo hi t4 vc l a Z) (a' : Nat) : KP w B0 Bc Bx lo hi t4 vc l a' (Z.setCell ⟨Bx, 0, none⟩ (.int .i64 (a' : Nat))) :=
  ⟨h.bel.setCell (p := ⟨Bx, 0, none⟩) (by have := h.ge; show w.heap.size ≤ Bx; omega) _, h.px.set_ne (by have := h.ge; omega) _, (Below.heap_setCell Z ⟨Bx, 0, none⟩ _ Bc (by have := h.ge; show Bc ≠ Bx; omega)).trans h.cx, h.nx.set _, rowSet h.oc h.nx (by decide), by have := h.sz; simpa [World.setCell] using this, h.ge⟩
theorem KP.app (h : KP w B0 Bc Bx lo hi t4 vc l a Z) {v' : Value} {l' : List Ins} (hg : Z.grownBy Z' vc.ownBlock) (ho : OwnC Z' hi v' l') : KP w B0 Bc Bx lo hi t4 v' l' a (Z'.setCell ⟨Bc, 0, none⟩ v') := by
  have hlt : ∀ k, vc.ownBlock = some k → hi ≤ k := fun k hk => (World.ownsRow.lt h.oc k hk).1
  have g := h.ge
  have bx : Boxed Z' Bx _ _ := (hg.block Bx h.nx.lt (fun e => by have := hlt Bx e.symm; omega)).trans h.nx
  have bc : Boxed Z' Bc _ _ := (hg.block Bc h.cx.lt (fun e => by have := hlt Bc e.symm; omega)).trans h.cx
  have b0 : Box4 Z' B0 _ _ _ _ _ := (hg.block B0 h.px.lt (fun e => by have := hlt B0 e.symm; omega)).trans h.px
  exact ⟨(h.bel.grown hg h.bel.size (fun k hk => Nat.le_trans (by omega) (hlt k hk))).setCell (p := ⟨Bc, 0, none⟩) (by show w.heap.size ≤ Bc; omega) _, b0.set_ne (by omega) _, bc.set _, (Below.heap_setCell Z' ⟨Bc, 0, none⟩ _ Bx (by show Bx ≠ Bc; omega)).trans bx, rowSet ho bc (by decide), by have h1 := h.sz; have h2 := hg.size; simp only [World.setCell, Array.size_modify]; omega, g⟩
end
def IK (w : World) (B0 Bc Bx lo hi : Nat) (t4 : Value × Value × Value × Value) (p : Pg) (pre : List Nat) (Z : World) : Prop := ∃ vc a, a ≤ p.code.length ∧ pre = ixsK (idL p) a ∧ KP w B0 Bc Bx lo hi t4 vc (stK p a) a Z
theorem IK.own {w : World} {B0 Bc Bx lo hi C : Nat} {t4 : Value × Value × Value × Value} {p : Pg} (h : w.heap.size ≤ C) : OwnFrom C (IK w B0 Bc Bx lo hi t4 p) := fun _ X Y row ⟨vc, a, h1, h2, q⟩ hg hr =>
  ⟨vc, a, h1, h2, q.keep (q.bel.grown hg q.bel.size (fun r e => Nat.le_trans h (hr r e).1)) hg.size (fun k o e1 e2 => (hg.block k (Array.getElem?_eq_some_iff.1 e1).1 (fun e => by obtain ⟨_, o', ho, hc⟩ := hr k e.symm; rw [e1] at ho; cases ho; rw [e2] at hc; cases hc)).trans e1)⟩
theorem ixsK_same {L : List Bool} {a : Nat} : ∀ d, ixsK L (a + d) = ixsK L a → ∀ k, a ≤ k → k < a + d → bl L k = false
  | 0, _, k, h1, h2 => by omega
  | d + 1, h, k, h1, h2 => by
    rw [show a + (d + 1) = (a + d) + 1 from rfl, ixsK_succ] at h
    have hl := (ixsK_pre L a d).length_le
    cases hb : bl L (a + d) with
    | true =>
      rw [if_pos hb] at h
      have := congrArg List.length h
      rw [List.length_append, List.length_singleton] at this
      omega
    | false =>
      rw [if_neg (by rw [hb]; decide)] at h
      by_cases e : k = a + d
      · subst e; exact hb
      · exact ixsK_same d h k h1 (by omega)
theorem stK_from {p : Pg} {a : Nat} : ∀ d, a + d ≤ p.code.length → (∀ k, a ≤ k → k < a + d → bl (idL p) k = false) → stK p (a + d) = stK p a ++ (p.code.drop a).take d
  | 0, _, _ => by simp
  | d + 1, hn, h => by
    rw [show a + (d + 1) = (a + d) + 1 from rfl, stK_succ, if_neg (by rw [h (a + d) (by omega) (by omega)]; decide), stK_from d (by omega) (fun k h1 h2 => h k h1 (by omega))]
    have hl : d < (p.code.drop a).length := by rw [List.length_drop]; omega
    rw [List.take_succ_eq_append_getElem hl, List.getElem_drop, cd_lt (show a + d < p.code.length by omega), List.append_assoc]
theorem stK_end {p : Pg} {a : Nat} (ha : a ≤ p.code.length) (h : ixsK (idL p) a = ixsK (idL p) p.code.length) : stK p a ++ p.code.drop a = (ddP p).code := by
  obtain ⟨d, hd⟩ : ∃ d, p.code.length = a + d := ⟨p.code.length - a, by omega⟩
  rw [← stK_all, hd, stK_from d (by omega) (ixsK_same d (by rw [← hd]; exact h.symm)), List.take_of_length_le (by rw [List.length_drop]; omega)]
theorem CodeAt.drop {w : World} {ca : Option Addr} {cc a : Nat} {code : List Ins} (h : CodeAt w (.slice ca code.length cc) code) (ha : a ≤ code.length) : CodeAt w (.slice (if cc = a then ca else Option.map (fun x => x.add (a * 5)) ca) (code.length - a) (cc - a)) (code.drop a) := by
  obtain ⟨a', cap, he, h1, h2, hne⟩ := h
  simp only [Value.slice.injEq] at he
  obtain ⟨rfl, _, rfl⟩ := he
  refine ⟨_, _, by rw [List.length_drop], by rw [List.length_drop]; omega, by omega, fun hn => ?_⟩
  have hlt : a < code.length := by
    rcases Nat.lt_or_ge a code.length with h | h
    · exact h
    · exact absurd (List.drop_eq_nil_of_le h) hn
  obtain ⟨b, off, rfl, hc⟩ := hne (by intro e; rw [e] at hlt; simp at hlt)
  rw [if_neg (by omega)]
  refine ⟨b, off + a * 5, ?_, fun i hi => ?_⟩
  · show some ((⟨b, off, none⟩ : Addr).add (a * 5)) = _
    unfold Addr.add
    split <;> simp_all
  · rw [List.length_drop] at hi
    have := hc (a + i) (by omega)
    have e1 : cd (code.drop a) i = cd code (a + i) := by unfold cd; simp [List.getD_eq_getElem?_getD, List.getElem?_drop]
    rw [e1, show off + a * 5 + i * 5 = off + (a + i) * 5 from by omega]
    exact this
def frK (a : Act) (ps : Array Tmp) (x : Nat) : Act := { tmps := ((ps.zip (encI x)).foldl (fun t (p, v) => t.setIfInBounds p v) a.tmps).setIfInBounds 5 (.int .i64 (x : Nat)), defers := [] }
set_option maxHeartbeats 8000000 in
theorem kept_any (v : Value) (p : Pg) (w : World) (h : PgAt w v p) (hr : rightB p = true) (hl4 : p.code.length ≤ 400) :
    Calls Try.prog 47 #[v] w fun e w' => (∃ vc, e = .returned vc ∧ OwnC w' w.heap.size vc (ddP p).code) ∧ Below w.heap.size w w' := by
  have HP := hide h
  have HL := hide hl4
  obtain ⟨ca, cc, oa, oc, rfl, hc, ho⟩ := h
  have KC := hide hc
  clear hc ho hl4
  refine callsC (n := 3) Try.func47 rfl ?_
  simp only [Try.ntmps47, List.size_toArray, List.length_cons, List.length_nil, Nat.reduceAdd, Nat.reduceSub, Array.replicate_succ, Array.replicate_zero, List.push_toArray, List.append_toArray, List.nil_append, List.cons_append]
  go_upto_region 1 with fail
  have b1 := below_alloc w (.cells #[.int .i64 p.ins, .int .i64 p.regs, .slice ca p.code.length cc, .slice oa p.outs.length oc] 25)
  have PX := hide (Box4.new w 25 (.int .i64 p.ins) (.int .i64 p.regs) (.slice ca p.code.length cc) (.slice oa p.outs.length oc))
  have HB := hide b1
  replace HP := hide (HP.out.below b1)
  clear b1
  generalize w.alloc (.cells #[.int .i64 p.ins, .int .i64 p.regs, .slice ca p.code.length cc, .slice oa p.outs.length oc] 25) = w1 at *
  obtain ⟨B0, hB0⟩ : ∃ B0, B0 = w.heap.size := ⟨_, rfl⟩
  have HZ := hide hB0
  rw [← hB0] at PX ⊢
  clear hB0
  go_step3
  go_upto_region 2 with fail
  have b1 := below_alloc w1 (.cells #[.slice none 0 0] 22)
  have XC := hide (Boxed.new w1 22 (.slice none 0 0))
  have LC := hide PX.out.lt
  replace PX := hide (PX.out.step b1)
  replace HP := hide (HP.out.below b1)
  replace HB := hide (HB.out.trans (b1.mono HB.out.size))
  clear b1
  generalize w1.alloc (.cells #[.slice none 0 0] 22) = w2 at *
  generalize w1.heap.size = Bc at *
  go_upto_region 3 with fail
  have b1 := below_alloc w2 (.cells #[.int .i64 0] 3)
  have XI := hide (Boxed.new w2 3 (.int .i64 0))
  have LX := hide XC.out.lt
  replace PX := hide (PX.out.step b1)
  replace HP := hide (HP.out.below b1)
  replace XC := hide (boxed_step XC.out b1)
  replace HB := hide (HB.out.trans (b1.mono HB.out.size))
  clear b1
  generalize w2.alloc (.cells #[.int .i64 0] 3) = w3 at *
  generalize w2.heap.size = Bx at *
  have c0 := PX.out.cell0
  have c1 := PX.out.cell1
  have c2 := PX.out.cell2
  have c3 := PX.out.cell3
  go_step3
  go_wp2_with fail
  refine (idle_any _ p _ HP.out (fun _ => HL.out)).mono ?_
  rintro e w8 ⟨⟨bx, vb, rfl, hx1, hbx, hO⟩, hb⟩
  have eid : idR p = idL p := by unfold idR; rw [hr]; rfl
  rw [eid] at hO
  obtain ⟨lo, hlo⟩ : ∃ lo, lo = w3.heap.size := ⟨_, rfl⟩
  rw [← hlo] at hO hx1
  have N8 : Hid (KP w B0 Bc Bx lo w8.heap.size ((.int .i64 p.ins), (.int .i64 p.regs), (.slice ca p.code.length cc), (.slice oa p.outs.length oc)) (.slice none 0 0) (stK p 0) 0 w8) := hide ⟨HB.out.trans (hb.mono HB.out.size), PX.out.step hb, boxed_step XC.out hb, boxed_step XI.out hb, World.ownsRow_nil _ _ _ _, Nat.le_refl _, by have h1 := HZ.out; have h2 := XI.out.lt; have h3 := hb.size; have h4 := LC.out; have h5 := LX.out; omega⟩
  obtain ⟨t4, ht4⟩ : ∃ t4 : Value × Value × Value × Value, t4 = ((.int .i64 p.ins), (.int .i64 p.regs), (.slice ca p.code.length cc), (.slice oa p.outs.length oc)) := ⟨_, rfl⟩
  rw [← ht4] at N8
  have HT4 := hide ht4
  have OB := hide hO
  have BX := hide hbx
  have X1 := hide hx1
  have WL : Hid (w.heap.size ≤ w8.heap.size) := hide N8.out.bel.size
  clear hO hbx hx1 hb hlo ht4 c0 c1 c2 c3 XC XI PX HP HB
  go_wp2_with fail
  refine (wpIn_wide (n := 3)).1 ?_
  refine rangeP frK (by omega) (gf := 50) (lb := #[.pointer (some ⟨bx, 0, none⟩)]) rfl (enters_of Try.func50 (by kernel_rfl) rfl) (idl_yields 2 (by omega) bx lo w8.heap.size lo vb (idL p) (by rw [idL_length]; have := HL.out; omega) w8 OB.out (Nat.le_refl _) rfl BX.out.cell) rfl (fun h k => Keeps.trans h k) (fun W o hs k _ h2 => by rw [World.putObj_heap_other (by omega)]) (Below.refl _ _) (fun _ => rfl) (IK w B0 Bc Bx lo w8.heap.size t4 p) (fun _ _ _ => False) (IK.own WL.out) (fun _ => ownFrom_pure _ _) ⟨_, 0, Nat.zero_le _, rfl, N8.out⟩ ?asg ?bd ?dn ?st
  case asg =>
    intro l pre x W K hI hK
    unfold encI
    simp only [List.zip_toArray, List.zip_cons_cons, List.zip_nil_right, List.foldl_toArray', List.size_toArray, List.length_cons, List.length_nil, List.foldl_cons, List.foldl_nil, List.setIfInBounds_toArray, List.set_cons_succ, List.set_cons_zero]
    gi_wp2
    exact hK _ _ (KeepsFrom.refl _ _) (Keeps.refl _ _ _) hI (by simp only [frK, encI, List.zip_toArray, List.zip_cons_cons, List.zip_nil_right, List.foldl_toArray', List.size_toArray, List.length_cons, List.length_nil, List.foldl_cons, List.foldl_nil, List.setIfInBounds_toArray, List.set_cons_succ, List.set_cons_zero])
  case bd =>
    rintro l pre x W ⟨vc, a, ha, rfl, hkp⟩ hsp
    rw [idL_length] at hsp
    obtain ⟨g1, g2, g3, g4⟩ := ixsK_gap (L := idL p) (n := p.code.length) (x := x) (p.code.length - a) a (by omega) hsp
    have GG := hide (And.intro g1 (And.intro g2 (And.intro g3 g4)))
    have Q := hide hkp
    clear hsp g3 g4 hkp
    unfold frK encI
    simp only [List.zip_toArray, List.zip_cons_cons, List.zip_nil_right, List.foldl_toArray', List.size_toArray, List.length_cons, List.length_nil, List.foldl_cons, List.foldl_nil, List.setIfInBounds_toArray, List.set_cons_succ, List.set_cons_zero]
    have cn := Q.out.nx.cell
    have hln := HL.out
    gi_wp2
    gi_loopw [6] (fun kv wr => ∃ (k : Nat) (vc' : Value), a ≤ k ∧ k ≤ x ∧ kv = .int .i64 (k : Nat) ∧ KP w B0 Bc Bx lo w8.heap.size t4 vc' (stK p k) a wr ∧ Rn w8.heap.size lo w8.heap.size W wr) (fun kv _ => x - (intOf kv).toNat)
    case atStart => exact ⟨a, vc, Nat.le_refl _, g1, rfl, Q.out, Rn.refl _ _ _ _⟩
    case round =>
      clear Q cn
      obtain ⟨k, vc', hk1, hk2, rfl, hq, hrn⟩ := hrel
      have Q := hide hq
      have RN := hide hrn
      clear hq hrn
      by_cases hlt : k < x
      · have KB : Hid (k < p.code.length) := hide (by omega)
        have ST : Hid (stK p (k + 1) = stK p k ++ [cd p.code k]) := hide (by rw [stK_succ, if_neg (by rw [GG.out.2.2.2 k hk1 hlt]; decide)])
        obtain ⟨b1, o1, rfl, hic⟩ := CodeAt.at (KC.out.below Q.out.bel) KB.out
        generalize cd p.code k = i at *
        obtain ⟨op, t, x1, y1, c1⟩ := i
        have IX := hide hic
        clear hic
        have hne : ((k : Int) == (x : Int)) = false := by rw [beq_eq_false_iff_ne]; omega
        gi_upto_region 9 with fail
        refine wp_calmI (fun w' => Below wr.heap.size wr w') (fun j => j != 7 && j != 8) 9 #[false, false, false, false, false, false, false, false, false] (by kernel_rfl) rfl rfl (by kernel_rfl) (fun ⟨_, _, h⟩ => h) ?_
        have HF := hide ((Below.refl wr.heap.size wr).drew)
        generalize wr.drew = wrd at *
        refine Calm.takeL 9 (i := 0) (v := ?_) (a' := ?_) (l' := #[true, false, false, false, false, false, false, false, false]) (d := some 18) (by kernel_rfl) rfl (by kernel_rfl) (by kernel_rfl) (by kernel_rfl) (by kernel_rfl) (fun _ _ _ h => h) HF.out rfl ?_ rfl rfl ?_ ?_
        rotate_left
        · intro w' hF; have c0 := (Q.out.below hF).cx.cell; have c2 := (Q.out.below hF).px.cell2; rw [HT4.out] at c2; dsimp only at c2; have kb := KB.out; have q0 := (IX.out.step hF).cell0; have q1 := (IX.out.step hF).cell1; have q2 := (IX.out.step hF).cell2; have q3 := (IX.out.step hF).cell3; have q4 := (IX.out.step hF).cell4; dsimp only at q0 q1 q2 q3 q4; clear hF; go_simp; try rfl
        rotate_left
        · simp only [Act.put]; exact rfl
        refine Calm.takeL 9 (i := 1) (v := ?_) (a' := ?_) (l' := #[true, true, false, false, false, false, false, false, false]) (d := some 19) (by kernel_rfl) rfl (by kernel_rfl) (by kernel_rfl) (by kernel_rfl) (by kernel_rfl) (fun _ _ _ h => h) HF.out rfl ?_ rfl rfl ?_ ?_
        rotate_left
        · intro w' hF; clear hF; go_simp; try rfl
        rotate_left
        · simp only [Act.put]; exact rfl
        refine Calm.takeL 9 (i := 2) (v := ?_) (a' := ?_) (l' := #[true, true, true, false, false, false, false, false, false]) (d := some 20) (by kernel_rfl) rfl (by kernel_rfl) (by kernel_rfl) (by kernel_rfl) (by kernel_rfl) (fun _ _ _ h => h) HF.out rfl ?_ rfl rfl ?_ ?_
        rotate_left
        · intro w' hF; have c0 := (Q.out.below hF).cx.cell; have c2 := (Q.out.below hF).px.cell2; rw [HT4.out] at c2; dsimp only at c2; have kb := KB.out; have q0 := (IX.out.step hF).cell0; have q1 := (IX.out.step hF).cell1; have q2 := (IX.out.step hF).cell2; have q3 := (IX.out.step hF).cell3; have q4 := (IX.out.step hF).cell4; dsimp only at q0 q1 q2 q3 q4; clear hF; go_simp; try rfl
        rotate_left
        · simp only [Act.put]; exact rfl
        refine Calm.takeL 9 (i := 3) (v := ?_) (a' := ?_) (l' := #[true, true, true, true, false, false, false, false, false]) (d := some 21) (by kernel_rfl) rfl (by kernel_rfl) (by kernel_rfl) (by kernel_rfl) (by kernel_rfl) (fun _ _ _ h => h) HF.out rfl ?_ rfl rfl ?_ ?_
        rotate_left
        · intro w' hF; clear hF; go_simp; try rfl
        rotate_left
        · simp only [Act.put]; exact rfl
        refine Calm.takeL 9 (i := 4) (v := ?_) (a' := ?_) (l' := #[true, true, true, true, true, false, false, false, false]) (d := some 22) (by kernel_rfl) rfl (by kernel_rfl) (by kernel_rfl) (by kernel_rfl) (by kernel_rfl) (fun _ _ _ h => h) HF.out rfl ?_ rfl rfl ?_ ?_
        rotate_left
        · intro w' hF; clear hF; go_simp; rw [if_pos KB.out]; try rfl
        rotate_left
        · simp only [Act.put]; exact rfl
        refine Calm.takeL 9 (i := 5) (v := ?_) (a' := ?_) (l' := #[true, true, true, true, true, true, false, false, false]) (d := some 23) (by kernel_rfl) rfl (by kernel_rfl) (by kernel_rfl) (by kernel_rfl) (by kernel_rfl) (fun _ _ _ h => h) HF.out rfl ?_ rfl rfl ?_ ?_
        rotate_left
        · intro w' hF; have c0 := (Q.out.below hF).cx.cell; have c2 := (Q.out.below hF).px.cell2; rw [HT4.out] at c2; dsimp only at c2; have kb := KB.out; have q0 := (IX.out.step hF).cell0; have q1 := (IX.out.step hF).cell1; have q2 := (IX.out.step hF).cell2; have q3 := (IX.out.step hF).cell3; have q4 := (IX.out.step hF).cell4; dsimp only at q0 q1 q2 q3 q4; clear hF; go_simp; try rfl
        rotate_left
        · simp only [Act.put]; exact rfl
        refine Calm.one (i := 6) (l' := #[true, true, true, true, true, true, true, false, false]) (by kernel_rfl) rfl rfl rfl fun K hK => ?_
        go_simp
        have al := below_alloc wrd (.cells #[.int .i64 op, .int .i64 t, .int .i64 x1, .int .i64 y1, .int .i64 c1] 34)
        have HF' := hide (HF.out.trans ((al).mono HF.out.size))
        have BXN := hide (code1 wrd ⟨op, t, x1, y1, c1⟩ rfl)
        have GEN := hide (HF.out.size)
        refine hK _ _ (fun _ => HF'.out) ?_
        clear hK K HF al
        have HF := hide HF'.out
        clear HF'
        generalize wrd.alloc (.cells #[.int .i64 op, .int .i64 t, .int .i64 x1, .int .i64 y1, .int .i64 c1] 34) = wzN at *
        generalize wrd.heap.size = gN at *
        refine Calm.one (i := 7) (l' := #[true, true, true, true, true, true, true, true, false]) (by kernel_rfl) rfl rfl rfl fun K hK => ?_
        have Q2 := hide (Q.out.below HF.out)
        refine wp_appC (.tmp 18) (.tmp 24) rfl w8.heap.size _ (stK p k) rfl Q2.out.oc _ [⟨op, t, x1, y1, c1⟩] rfl BXN.out (by have h1 := stK_length p k; have h2 := HL.out; have h3 := KB.out; simp only [List.length_singleton]; omega) Q2.out.sz ?_
        intro v0 w9 hown hgrow
        obtain ⟨va1, vc1, hv1⟩ := own_slice hown
        obtain ⟨n1, hn1⟩ : ∃ n1, n1 = (stK p k ++ ([(⟨op, t, x1, y1, c1⟩ : Ins)] : List Ins)).length := ⟨_, rfl⟩
        rw [← hn1] at hv1
        clear hn1
        have hvv := hv1
        clear hv1
        have C9 := hide (Q2.out.grow hgrow)
        have K9 := hide (Q2.out.app hgrow hown)
        have R9 := hide ((RN.out.trans (Rn.below (B := w8.heap.size) (lo := lo) (hi := w8.heap.size) HF.out Q.out.sz)).trans ((Rn.grown (B := w8.heap.size) (lo := lo) (hi := w8.heap.size) hgrow (fun r e => Q2.out.cells e) Q2.out.sz).trans (Rn.set (B := w8.heap.size) (lo := lo) (hi := w8.heap.size) (b := Bc) (o := 0) w9 v0 (.inl (by have := Q2.out.ge; omega)))))
        clear hown hgrow
        refine hK _ _ (fun h => absurd h (by decide)) ?_
        clear hK K
        refine Calm.one (i := 8) (l' := #[true, true, true, true, true, true, true, true, true]) (by kernel_rfl) rfl rfl rfl fun K hK => ?_
        rw [hvv] at K9 R9 ⊢
        have o3 := C9.out.cell
        have of3 := C9.out.frozen
        go_simp
        refine hK _ _ (fun h => absurd h (by decide)) ?_
        clear hK K
        refine Calm.done (by kernel_rfl) ?_
        clear o3 of3 C9
        rw [← hvv] at K9 R9 ⊢
        generalize w9.setCell ⟨Bc, 0, none⟩ v0 = wz at *
        gi_wp2
        go_roundw
        case rel => exact ⟨k + 1, v0, by omega, by omega, by go_num, by rw [ST.out]; exact K9.out, R9.out⟩
        case measure => simp [intOf]; omega
      · have e : k = x := by omega
        subst e
        have cn := Q.out.nx.cell
        have fn := Q.out.nx.frozen
        have N9 := hide (Q.out.next (k + 1))
        have E1 : Hid (ixsK (idL p) (k + 1) = ixsK (idL p) a ++ [k]) := hide (by
          have := ixsK_none (L := idL p) a (k - a) (fun j h1 h2 => GG.out.2.2.2 j h1 (by omega))
          rw [show a + (k - a) = k from by omega] at this
          rw [ixsK_succ, if_pos GG.out.2.2.1, this])
        have E2 : Hid (stK p (k + 1) = stK p k) := hide (by rw [stK_succ, if_pos GG.out.2.2.1])
        have R9 := hide (RN.out.trans (Rn.set (B := w8.heap.size) (lo := lo) (hi := w8.heap.size) (b := Bx) (o := 0) wr (.int .i64 ((k + 1 : Nat) : Int)) (.inl (by have := Q.out.ge; omega))))
        gi_wp2
        have hcast : ((k : Int) + 1) = ((k + 1 : Nat) : Int) := by omega
        try rw [hcast]
        exact ⟨R9.out.kf, R9.out.kc, vc', k + 1, by have := GG.out.2.1; omega, E1.out.symm, by rw [E2.out]; exact N9.out⟩
  case dn =>
    rintro D xs Z hD hxs ⟨vc, a, ha, hpre, hkp⟩ hK
    have Q := hide hkp
    have HD := hide hD
    have HK := hide hK
    have EN := hide (stK_end ha (by rw [← hpre, hxs, idL_length]))
    clear hkp hD hK hxs hpre
    simp only [Exit.inBlock, Exit.then]
    have hln := HL.out
    go_upto_region 10 with fail
    refine wp_calm (fun w' => Below Z.heap.size Z w') (fun j => j != 5 && j != 6) 7 #[false, false, false, false, false, false, false] (by kernel_rfl) rfl rfl ?_
    have HF := hide ((Below.refl Z.heap.size Z).drew)
    generalize Z.drew = Zd at *
    refine Calm.takeL 7 (i := 0) (v := ?_) (a' := ?_) (l' := #[true, false, false, false, false, false, false]) (d := some 26) (by kernel_rfl) rfl (by kernel_rfl) (by kernel_rfl) (by kernel_rfl) (by kernel_rfl) (fun _ _ _ h => h) HF.out rfl ?_ rfl rfl ?_ ?_
    rotate_left
    · intro w' hF; have c0 := (Q.out.below hF).cx.cell; have c2 := (Q.out.below hF).px.cell2; rw [HT4.out] at c2; dsimp only at c2; have n0 := (Q.out.below hF).nx.cell; clear hF; go_simp; try rfl
    rotate_left
    · simp only [Act.put]; exact rfl
    refine Calm.takeL 7 (i := 1) (v := ?_) (a' := ?_) (l' := #[true, true, false, false, false, false, false]) (d := some 27) (by kernel_rfl) rfl (by kernel_rfl) (by kernel_rfl) (by kernel_rfl) (by kernel_rfl) (fun _ _ _ h => h) HF.out rfl ?_ rfl rfl ?_ ?_
    rotate_left
    · intro w' hF; clear hF; go_simp; try rfl
    rotate_left
    · simp only [Act.put]; exact rfl
    refine Calm.takeL 7 (i := 2) (v := ?_) (a' := ?_) (l' := #[true, true, true, false, false, false, false]) (d := some 28) (by kernel_rfl) rfl (by kernel_rfl) (by kernel_rfl) (by kernel_rfl) (by kernel_rfl) (fun _ _ _ h => h) HF.out rfl ?_ rfl rfl ?_ ?_
    rotate_left
    · intro w' hF; have c0 := (Q.out.below hF).cx.cell; have c2 := (Q.out.below hF).px.cell2; rw [HT4.out] at c2; dsimp only at c2; have n0 := (Q.out.below hF).nx.cell; clear hF; go_simp; try rfl
    rotate_left
    · simp only [Act.put]; exact rfl
    refine Calm.takeL 7 (i := 3) (v := ?_) (a' := ?_) (l' := #[true, true, true, true, false, false, false]) (d := some 29) (by kernel_rfl) rfl (by kernel_rfl) (by kernel_rfl) (by kernel_rfl) (by kernel_rfl) (fun _ _ _ h => h) HF.out rfl ?_ rfl rfl ?_ ?_
    rotate_left
    · intro w' hF; have c0 := (Q.out.below hF).cx.cell; have c2 := (Q.out.below hF).px.cell2; rw [HT4.out] at c2; dsimp only at c2; have n0 := (Q.out.below hF).nx.cell; clear hF; go_simp; try rfl
    rotate_left
    · simp only [Act.put]; exact rfl
    refine Calm.takeL 7 (i := 4) (v := ?_) (a' := ?_) (l' := #[true, true, true, true, true, false, false]) (d := some 30) (by kernel_rfl) rfl (by kernel_rfl) (by kernel_rfl) (by kernel_rfl) (by kernel_rfl) (fun _ _ _ h => h) HF.out rfl ?_ rfl rfl ?_ ?_
    rotate_left
    · intro w' hF; clear hF; go_simp; try rfl
    rotate_left
    · simp only [Act.put]; exact rfl
    refine Calm.one (i := 5) (l' := #[true, true, true, true, true, true, false]) (by kernel_rfl) rfl rfl rfl fun K hK => ?_
    have Q2 := hide (Q.out.below HF.out)
    have CD0 := CodeAt.drop (KC.out.below Q2.out.bel) ha
    obtain ⟨cz, hcz⟩ : ∃ cz, cz = (if cc = a then ca else Option.map (fun x => x.add (a * 5)) ca) := ⟨_, rfl⟩
    rw [← hcz] at CD0 ⊢
    have CD := hide CD0
    clear CD0 hcz
    refine wp_appC (.tmp 26) (.tmp 30) rfl w8.heap.size _ (stK p a) rfl Q2.out.oc _ (p.code.drop a) rfl CD.out (by have h1 := stK_length p a; rw [List.length_drop]; omega) Q2.out.sz ?_
    intro v0 w9 hown hgrow
    rw [EN.out] at hown
    have O9 := hide hown
    have B9 := hide (Q2.out.bel.grown hgrow Q2.out.bel.size (fun r e => Nat.le_trans WL.out (World.ownsRow.lt Q2.out.oc r e).1))
    have hkD := (HF.out.block D (Array.getElem?_eq_some_iff.1 HK.out).1).trans HK.out
    have K9 := hide ((hgrow.block D (Array.getElem?_eq_some_iff.1 hkD).1 (fun e => by obtain ⟨_, cs, t, f, h⟩ := Q2.out.cells e.symm; rw [h] at hkD; cases hkD)).trans hkD)
    clear hown hgrow hkD
    refine hK _ _ (fun h => absurd h (by decide)) ?_
    clear hK K
    refine Calm.one (i := 6) (l' := #[true, true, true, true, true, true, true]) (by kernel_rfl) rfl rfl rfl fun K hK => ?_
    go_simp
    refine hK _ _ (fun h => absurd h (by decide)) ?_
    clear hK K
    refine Calm.done (by kernel_rfl) ?_
    go_wp2
    try rw [Exit.noGoto_ret]
    refine leavesC (B := w8.heap.size) (I := fun (_ : Unit) V => OwnC V w8.heap.size v0 (ddP p).code ∧ Below w.heap.size w V) (fun _ X Y row q hg hr => ⟨rowKeep q.1 (fun k o e1 e2 => (hg.block k (Array.getElem?_eq_some_iff.1 e1).1 (fun e => by obtain ⟨_, o', ho, hc⟩ := hr k e.symm; rw [e1] at ho; cases ho; rw [e2] at hc; cases hc)).trans e1), q.2.grown hg q.2.size (fun r e => Nat.le_trans WL.out (hr r e).1)⟩) () (fun V q => ⟨_, results_tmp rfl _ _ _, ⟨_, rfl, own_base q.1 WL.out⟩, q.2⟩) [D] _ (MarksC.one HD.out K9.out) ⟨O9.out, B9.out⟩
  case st => exact fun _ _ _ _ _ _ h _ => h.elim
end Go.Proofs.Ytcciojlbfaanmaa
