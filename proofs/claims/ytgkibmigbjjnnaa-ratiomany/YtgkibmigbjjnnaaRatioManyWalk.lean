/- swagelaw03.RatioMany answers true at all lists of fractions' texts, and turns nothing that was there. -/
import Derived.Test.YtgkibmigbjjnnaaR3Com
import Derived.Test.YtgkibmigbjjnnaaRLong2
import Derived.Test.YtgkibmigbjjnnaaR3Rat
import Derived.Test.YtgkibmigbjjnnaaRWorks
import Derived.Deep.Cut
namespace Go.Proofs.Ytgkibmigbjjnnaa
open Go.RowKit

theorem Try.infoAB : (Try.prog.info? 27).map (fun i => (i.zero, i.size, i.bytes)) = some (some (.agg #[.bool false, .slice none 0 0, .bool false, .slice none 0 0]), 4, 64) := by kernel_rfl
theorem Try.infoQB : (Try.prog.info? 59).map (fun i => (i.zero, i.size, i.bytes)) = some (some (.agg #[.bool false, .slice none 0 0, .bool false, .slice none 0 0]), 4, 64) := by kernel_rfl
def LGA (w : World) (base : Nat) (v : Value) (qs : List Rat) : Prop := ListG RatAt 27 w base v qs
def LGQ (w : World) (base : Nat) (v : Value) (qs : List Rat) : Prop := ListG RQ 59 w base v qs
theorem LGA.below {w w' : World} {base : Nat} {v : Value} {qs : List Rat} (h : LGA w base v qs) (hb : Below w.heap.size w w') : LGA w' base v qs := ListG.below famA h hb
theorem LGQ.below {w w' : World} {base : Nat} {v : Value} {qs : List Rat} (h : LGQ w base v qs) (hb : Below w.heap.size w w') : LGQ w' base v qs := ListG.below famQ h hb
theorem LGA.drew {w : World} {base : Nat} {v : Value} {qs : List Rat} (h : LGA w base v qs) : LGA w.drew base v qs := h
theorem LGQ.drew {w : World} {base : Nat} {v : Value} {qs : List Rat} (h : LGQ w base v qs) : LGQ w.drew base v qs := h
theorem RInts.drew {w : World} {v : Value} {zs : List Int} (h : RInts w v zs) : RInts w.drew v zs := h
theorem sz_snoc {qs : List Rat} {q : Rat} (h : ∀ i, i < qs.length → SzR 300 (qs.getD i 0)) (hq : SzR 300 q) : ∀ i, i < (qs ++ [q]).length → SzR 300 ((qs ++ [q]).getD i 0) := by
  intro i hi
  rw [List.length_append, List.length_singleton] at hi
  rcases Nat.lt_or_ge i qs.length with h1 | h1
  · rw [List.getD_eq_getElem?_getD, List.getElem?_append_left h1, ← List.getD_eq_getElem?_getD]; exact h i h1
  · have e : i = qs.length := by omega
    subst e
    rw [List.getD_eq_getElem?_getD, List.getElem?_append_right (Nat.le_refl _), Nat.sub_self]; exact hq

/-- an operation whose guard is false -/
theorem Calm.skipM {P : Program} {md : Region.Mode} {ops : Array Oper} {Q : Exit → Act → World → Prop} {F : World → Prop} {pend : Nat → Bool} {i : Nat} {oi : Oper} {fuel : Nat} {listed : Array Bool} {a : Act} {w : World} (hi : ops[i]? = some oi) (hs : Region.noSelect ops = true) (hw : Waits md ops pend i = true) (hf : Region.free md ops listed i = true)
    (hr : (Region.ready md ops listed).contains i = true) (hQ : ∀ c a w, Q (.panic c) (a.put oi.dst undef) w → Q (.panic c) a w) (hF : F w) (hg : Region.wanted oi (yielded ops a.tmps) = false)
    {l' : Array Bool} (hl : listed.setIfInBounds i true = l') {d : Option Tmp} (hd : oi.dst = d) {a' : Act} (ha : a.put d undef = a') (h : Calm P md ops Q F pend fuel l' a' w) : Calm P md ops Q F pend (fuel + 1) listed a w := by
  subst hl; subst hd; subst ha
  exact Calm.first hi hs hw hQ fuel listed a w (Region.free_spec hi hf) (by simpa using hr) hF (.inr ⟨hg, rfl⟩) h

set_option maxRecDepth 100000 in
set_option maxHeartbeats 16000000 in
theorem rmany_walk (v : Value) (l : List (ByteArray × ByteArray)) (w : World) (h : FracL w v l) :
    Calls Try.prog 4 #[v] w fun e w' => e = .returned (.bool true) ∧ Below w.heap.size w w' := by
  have HF0 := hide h
  obtain ⟨a, cap, rfl, hcap, hm, _⟩ := h
  unfold maxLen at hm
  obtain ⟨i0, hi0, hz0, hz1, hz2⟩ := info_parts Try.infoAB
  have TI := hide (And.intro hi0 (And.intro hz0 (And.intro hz1 hz2)))
  clear hi0 hz0 hz1 hz2
  obtain ⟨i1, hi0, hz0, hz1, hz2⟩ := info_parts Try.infoQB
  have TK := hide (And.intro hi0 (And.intro hz0 (And.intro hz1 hz2)))
  clear hi0 hz0 hz1 hz2
  obtain ⟨N, hN⟩ : ∃ N, l.length = N := ⟨_, rfl⟩
  have HN := hide hN
  rw [hN] at hcap HF0 ⊢
  clear hN
  have HB := hide (Below.refl w.heap.size w)
  go_enter Try.func4, Try.ntmps4
  go_wp2_with fail
  refine (works3_any _).mono ?_
  rintro e u1 ⟨rfl, hb⟩
  replace HB := hide (HB.out.trans ((hb).mono HB.out.size))
  clear hb
  go_wp2_with fail
  refine (longL_any _ l _ (HF0.out.below HB.out)).mono ?_
  rintro e u2 ⟨⟨r, rfl, hr⟩, hb⟩
  replace HB := hide (HB.out.trans ((hb).mono HB.out.size))
  clear hb
  have HR := hide hr
  clear hr
  cases r with
  | true =>
    go_wp2
    go_ret
    exact ⟨rfl, HB.out⟩
  | false =>
    have SH : Hid (N ≤ 12 ∧ ∀ i, i < N → ShortT (bT l i)) := hide (by have hh := HR.out rfl; rw [HN.out] at hh; exact hh)
    clear HR
    go_wp2
    go_loopw [3, 4, 6, 7, 8, 9, 21] (fun va vb _ _ _ _ iv wr => ∃ (k : Nat) (qs : List Rat), k ≤ N ∧ iv = .int .i64 k ∧ Below w.heap.size w wr ∧ Hid (qs.length = k) ∧ Hid (∀ i, i < qs.length → SzR 300 (qs.getD i 0)) ∧ Hid (LGA wr w.heap.size va qs) ∧ Hid (LGQ wr w.heap.size vb qs) ∧ Hid (∀ g, va.ownBlock = some g → vb.ownBlock ≠ some g)) (fun _ _ _ _ _ _ iv _ => N - (intOf iv).toNat)
    case atStart => exact ⟨0, [], Nat.zero_le _, rfl, HB.out, hide rfl, hide (fun i hi => absurd hi (Nat.not_lt_zero i)), hide (ListG.nil _ _ _ _), hide (ListG.nil _ _ _ _), hide (fun g h => by cases h)⟩
    case round =>
      clear HB
      obtain ⟨k, qs, hk, rfl, hb, QL, QS, LA, LB, AP⟩ := hrel
      have HB := hide hb
      clear hb
      by_cases hlt : k < N
      · have HLT : Hid (k < l.length) := hide (by rw [HN.out]; exact hlt)
        obtain ⟨b, off, rfl, c1, c2, _, _⟩ := (HF0.out.below HB.out).at HLT.out
        have SS := hide (SH.out.2 k hlt)
        obtain ⟨s, hs⟩ : ∃ s, (bT l k).1 = s := ⟨_, rfl⟩
        obtain ⟨t, ht⟩ : ∃ t, (bT l k).2 = t := ⟨_, rfl⟩
        rw [hs] at c1
        rw [ht] at c2
        have S1 : Hid (s.size ≤ 300) := hide (by rw [← hs]; exact SS.out.1)
        have S2 : Hid (t.size ≤ 300) := hide (by rw [← ht]; exact SS.out.2)
        clear hs ht SS
        have hltI : (k : Int) < (N : Int) := by omega
        have LAL0 : Hid (∀ g, u3.ownBlock = some g → g < wr.heap.size) := hide (fun g h => (ListG.lt LA.out h).2)
        have LBL0 : Hid (∀ g, u4.ownBlock = some g → g < wr.heap.size) := hide (fun g h => (ListG.lt LB.out h).2)
        go_upto_region 10 with fail
        clear c1 c2
        have al := below_alloc wr (.cells #[.string s, .string t] 55)
        replace HB := hide (HB.out.trans ((al).mono HB.out.size))
        replace LA := hide (LA.out.below (al))
        replace LB := hide (LB.out.below (al))
        have V6 := hide (BoxF.new wr (.string s) (.string t))
        clear al
        generalize wr.alloc (.cells #[.string s, .string t] 55) = wra at *
        generalize wr.heap.size = g6 at *
        have hV60 := V6.out.cell0
        have hV61 := V6.out.cell1
        go_wp2_with fail
        clear hV60 hV61
        refine (rat3_any s t _ S1.out S2.out).mono ?_
        rintro e u1 ⟨⟨s1, m1, n1, c1, t1, o1, p1, d1, s2, m2, n2, c2, t2, o2, p2, d2, ok, rfl, hk3⟩, hb⟩
        have K3 : Hid (ok = true → ∃ q, RatAt u1 (.agg #[.bool s1, .slice m1 n1 c1, .bool t1, .slice o1 p1 d1]) q ∧ RQ u1 (.agg #[.bool s2, .slice m2 n2 c2, .bool t2, .slice o2 p2 d2]) q ∧ SzR 300 q) := hide hk3
        have LT6 := hide V6.out.lt
        replace HB := hide (HB.out.trans ((hb).mono HB.out.size))
        replace LA := hide (LA.out.below (hb))
        replace LB := hide (LB.out.below (hb))
        replace V6 := hide (V6.out.step (hb))
        clear hb hk3
        clear V6
        go_upto_region 11 with fail
        have LU0 := hide HB.out.size
        cases ok with
        | false =>
          have V7 := Box4.new u1 (.bool s1) (.slice m1 n1 c1) (.bool t1) (.slice o1 p1 d1)
          replace V7 := V7.step (below_alloc _ (.cells #[.bool s2, .slice m2 n2 c2, .bool t2, .slice o2 p2 d2] 59))
          replace V7 := hide V7
          have V8 := BoxQ.new (u1.alloc (.cells #[.bool s1, .slice m1 n1 c1, .bool t1, .slice o1 p1 d1] 27)) (.bool s2) (.slice m2 n2 c2) (.bool t2) (.slice o2 p2 d2)
          simp only [World.size_alloc] at V8
          replace V8 := hide V8
          have al := below_alloc u1 (.cells #[.bool s1, .slice m1 n1 c1, .bool t1, .slice o1 p1 d1] 27)
          replace al := al.trans ((below_alloc _ (.cells #[.bool s2, .slice m2 n2 c2, .bool t2, .slice o2 p2 d2] 59)).mono (by simp only [World.size_alloc]; omega))
          replace HB := hide (HB.out.trans ((al).mono HB.out.size))
          replace LA := hide (LA.out.below (al))
          replace LB := hide (LB.out.below (al))
          clear al
          generalize ((u1.alloc (.cells #[.bool s1, .slice m1 n1 c1, .bool t1, .slice o1 p1 d1] 27)).alloc (.cells #[.bool s2, .slice m2 n2 c2, .bool t2, .slice o2 p2 d2] 59)) = u1a at *
          generalize u1.heap.size = g7 at *
          go_wp2
          go_ret
          exact ⟨rfl, HB.out⟩
        | true =>
          obtain ⟨q, j1, j2, hz⟩ := K3.out rfl
          have I1 := hide j1
          have I2 := hide j2
          have SQ := hide hz
          clear j1 j2 hz K3
          have LAL1 : Hid (∀ g, u3.ownBlock = some g → g < u1.heap.size) := hide (fun g h => (ListG.lt LA.out h).2)
          have LBL1 : Hid (∀ g, u4.ownBlock = some g → g < u1.heap.size) := hide (fun g h => (ListG.lt LB.out h).2)
          clear LAL0 LBL0
          have V7 := Box4.new u1 (.bool s1) (.slice m1 n1 c1) (.bool t1) (.slice o1 p1 d1)
          replace V7 := V7.step (below_alloc _ (.cells #[.bool s2, .slice m2 n2 c2, .bool t2, .slice o2 p2 d2] 59))
          replace V7 := hide V7
          have V8 := BoxQ.new (u1.alloc (.cells #[.bool s1, .slice m1 n1 c1, .bool t1, .slice o1 p1 d1] 27)) (.bool s2) (.slice m2 n2 c2) (.bool t2) (.slice o2 p2 d2)
          simp only [World.size_alloc] at V8
          replace V8 := hide V8
          have al := below_alloc u1 (.cells #[.bool s1, .slice m1 n1 c1, .bool t1, .slice o1 p1 d1] 27)
          replace al := al.trans ((below_alloc _ (.cells #[.bool s2, .slice m2 n2 c2, .bool t2, .slice o2 p2 d2] 59)).mono (by simp only [World.size_alloc]; omega))
          replace HB := hide (HB.out.trans ((al).mono HB.out.size))
          replace LA := hide (LA.out.below (al))
          replace LB := hide (LB.out.below (al))
          replace I1 := hide (I1.out.below (al))
          replace I2 := hide (I2.out.below (al))
          clear al
          generalize ((u1.alloc (.cells #[.bool s1, .slice m1 n1 c1, .bool t1, .slice o1 p1 d1] 27)).alloc (.cells #[.bool s2, .slice m2 n2 c2, .bool t2, .slice o2 p2 d2] 59)) = u1a at *
          generalize u1.heap.size = g7 at *
          have LAL : Hid (∀ g, u3.ownBlock = some g → g < g7) := LAL1
          have LBL : Hid (∀ g, u4.ownBlock = some g → g < g7) := LBL1
          clear LAL1 LBL1 LT6 LU0
          have LN : Hid (qs.length ≤ 12) := hide (by have := SH.out.1; have := QL.out; omega)
          go_wp2_with fail
          replace LA := hide LA.out.drew
          replace LB := hide LB.out.drew
          replace I1 := hide I1.out.drew
          replace I2 := hide I2.out.drew
          refine wp_calm (fun w' => Below w.heap.size w w' ∧ Box4 w' g7 (.bool s1) (.slice m1 n1 c1) (.bool t1) (.slice o1 p1 d1) ∧ BoxQ w' (g7 + 1) (.bool s2) (.slice m2 n2 c2) (.bool t2) (.slice o2 p2 d2)) (fun _ => true) 10 #[false, false, false, false, false, false, false, false, false, false] (by kernel_rfl) rfl rfl ?_
          have HF := hide (And.intro (HB.out.drew) (And.intro (V7.out.drew) (V8.out.drew)))
          generalize u1a.drew = u1ad at *
          refine Calm.takeL 10 (i := 0) (v := ?_) (a' := ?_) (l' := #[true, false, false, false, false, false, false, false, false, false]) (d := some 33) (by kernel_rfl) rfl (by kernel_rfl) (by kernel_rfl) (by kernel_rfl) (by kernel_rfl) (fun _ _ _ h => h) HF.out rfl ?_ rfl rfl ?_ ?_
          rotate_left
          · intro w' hF; clear hF; go_simp; try rfl
          rotate_left
          · simp only [Act.put]; exact rfl
          refine Calm.takeL 10 (i := 1) (v := ?_) (a' := ?_) (l' := #[true, true, false, false, false, false, false, false, false, false]) (d := some 34) (by kernel_rfl) rfl (by kernel_rfl) (by kernel_rfl) (by kernel_rfl) (by kernel_rfl) (fun _ _ _ h => h) HF.out rfl ?_ rfl rfl ?_ ?_
          rotate_left
          · intro w' hF; have f10 := hF.2.1.cell0; have f11 := hF.2.1.cell1; have f12 := hF.2.1.cell2; have f13 := hF.2.1.cell3; have f20 := hF.2.2.cell0; have f21 := hF.2.2.cell1; have f22 := hF.2.2.cell2; have f23 := hF.2.2.cell3; clear hF; go_simp; try rfl
          rotate_left
          · simp only [Act.put]; exact rfl
          refine Calm.takeL 10 (i := 4) (v := ?_) (a' := ?_) (l' := #[true, true, false, false, true, false, false, false, false, false]) (d := some 37) (by kernel_rfl) rfl (by kernel_rfl) (by kernel_rfl) (by kernel_rfl) (by kernel_rfl) (fun _ _ _ h => h) HF.out rfl ?_ rfl rfl ?_ ?_
          rotate_left
          · intro w' hF; clear hF; go_simp; try rfl
          rotate_left
          · simp only [Act.put]; exact rfl
          refine Calm.takeL 10 (i := 5) (v := ?_) (a' := ?_) (l' := #[true, true, false, false, true, true, false, false, false, false]) (d := some 38) (by kernel_rfl) rfl (by kernel_rfl) (by kernel_rfl) (by kernel_rfl) (by kernel_rfl) (fun _ _ _ h => h) HF.out rfl ?_ rfl rfl ?_ ?_
          rotate_left
          · intro w' hF; have f10 := hF.2.1.cell0; have f11 := hF.2.1.cell1; have f12 := hF.2.1.cell2; have f13 := hF.2.1.cell3; have f20 := hF.2.2.cell0; have f21 := hF.2.2.cell1; have f22 := hF.2.2.cell2; have f23 := hF.2.2.cell3; clear hF; go_simp; try rfl
          rotate_left
          · simp only [Act.put]; exact rfl
          refine Calm.two (i := 2) (j := 6) (l := #[true, true, true, false, true, true, false, false, false, false]) (l' := #[true, true, false, false, true, true, true, false, false, false]) (by kernel_rfl) rfl rfl rfl rfl rfl rfl (fun K hK => ?_) (fun K hK => ?_)
          · go_simp
            have al := below_alloc u1ad (.cells #[.bool s1, .slice m1 n1 c1, .bool t1, .slice o1 p1 d1] 27)
            have HF' := hide (And.intro (HF.out.1.trans ((al).mono HF.out.1.size)) (And.intro (HF.out.2.1.step (al)) (HF.out.2.2.step (al))))
            have BXe := hide (Box4.new u1ad (.bool s1) (.slice m1 n1 c1) (.bool t1) (.slice o1 p1 d1))
            replace LA := hide (LA.out.below (al))
            replace LB := hide (LB.out.below (al))
            replace I1 := hide (I1.out.below (al))
            replace I2 := hide (I2.out.below (al))
            have LT1e := hide (HF.out.2.1.lt)
            have LT2e := hide (HF.out.2.2.lt)
            have GEe := hide (HF.out.1.size)
            refine hK _ _ (fun _ => HF'.out) ?_
            clear hK K HF al
            have HF := hide HF'.out
            clear HF'
            generalize u1ad.alloc (.cells #[.bool s1, .slice m1 n1 c1, .bool t1, .slice o1 p1 d1] 27) = wze at *
            generalize u1ad.heap.size = ge at *
            refine Calm.two (i := 3) (j := 6) (l := #[true, true, true, true, true, true, false, false, false, false]) (l' := #[true, true, true, false, true, true, true, false, false, false]) (by kernel_rfl) rfl rfl rfl rfl rfl rfl (fun K hK => ?_) (fun K hK => ?_)
            · obtain ⟨zx, ho, hx⟩ := LA.out
              have he : Cell4 wze ge 0 (.bool s1) (.slice m1 n1 c1) (.bool t1) (.slice o1 p1 d1) := ⟨BXe.out.cell0, BXe.out.cell1, BXe.out.cell2, BXe.out.cell3⟩
              refine wp_app4 _ (.tmp 33) (.tmp 35) 52 rfl w.heap.size 27 _ Try.underlying52 TI.out.1 TI.out.2.1 TI.out.2.2.1 TI.out.2.2.2 u3 qs.length zx rfl ho ge 1 s1 t1 m1 o1 n1 c1 p1 d1 rfl he (by have := LN.out; omega) HF.out.1.size ?_
              intro vA xA ho' hg hob
              have HK := hide (Own4.spares ho hg)
              have HF' := hide (And.intro (below_growQ HF.out.1 hg HF.out.1.size (fun g e => (ListG.lt LA.out e).1)) (And.intro (show Box4 xA g7 (.bool s1) (.slice m1 n1 c1) (.bool t1) (.slice o1 p1 d1) from (hg.block g7 HF.out.2.1.lt (fun e => absurd (LAL.out _ e.symm) (by omega))).trans HF.out.2.1) (show BoxQ xA (g7 + 1) (.bool s2) (.slice m2 n2 c2) (.bool t2) (.slice o2 p2 d2) from (hg.block (g7 + 1) HF.out.2.2.lt (fun e => absurd (LAL.out _ e.symm) (by omega))).trans HF.out.2.2)))
              have L2 := hide (ListG.app famA ho hx I1.out ho' hg)
              have O2 := hide (ListG.other famQ LB.out hg HK.out (fun g h e => AP.out g e h))
              have AP2 : Hid (∀ g, vA.ownBlock = some g → u4.ownBlock ≠ some g) := hide (fun g h1 h2 => by rcases hob with e | e; exact AP.out g (e ▸ h1) h2; have h3 := (ListG.lt LB.out h2).2; rw [e] at h1; simp only [Option.some.injEq] at h1; omega)
              replace I1 := hide (I1.out.keep HK.out)
              replace I2 := hide (I2.out.keep HK.out)
              refine hK _ _ (fun _ => HF'.out) ?_
              clear hK K HF ho hx ho' hg hob he BXe HK LA LB AP
              have HF := hide HF'.out
              clear HF'
              have LA : Hid (LGA xA w.heap.size vA (qs ++ [q])) := hide L2.out
              have LB : Hid (LGQ xA w.heap.size u4 qs) := hide O2.out
              have AP := hide AP2.out
              clear L2 O2 AP2
              refine Calm.one (i := 6) (l' := #[true, true, true, true, true, true, true, false, false, false]) (by kernel_rfl) rfl rfl rfl fun K hK => ?_
              go_simp
              have al := below_alloc xA (.cells #[.bool s2, .slice m2 n2 c2, .bool t2, .slice o2 p2 d2] 59)
              have HF' := hide (And.intro (HF.out.1.trans ((al).mono HF.out.1.size)) (And.intro (HF.out.2.1.step (al)) (HF.out.2.2.step (al))))
              have BXf := hide (BoxQ.new xA (.bool s2) (.slice m2 n2 c2) (.bool t2) (.slice o2 p2 d2))
              replace LA := hide (LA.out.below (al))
              replace LB := hide (LB.out.below (al))
              replace I1 := hide (I1.out.below (al))
              replace I2 := hide (I2.out.below (al))
              have LT1f := hide (HF.out.2.1.lt)
              have LT2f := hide (HF.out.2.2.lt)
              have GEf := hide (HF.out.1.size)
              refine hK _ _ (fun _ => HF'.out) ?_
              clear hK K HF al
              have HF := hide HF'.out
              clear HF'
              generalize xA.alloc (.cells #[.bool s2, .slice m2 n2 c2, .bool t2, .slice o2 p2 d2] 59) = wzf at *
              generalize xA.heap.size = gf at *
              refine Calm.one (i := 7) (l' := #[true, true, true, true, true, true, true, true, false, false]) (by kernel_rfl) rfl rfl rfl fun K hK => ?_
              obtain ⟨zx, ho, hx⟩ := LB.out
              have he : Cell4 wzf gf 0 (.bool s2) (.slice m2 n2 c2) (.bool t2) (.slice o2 p2 d2) := ⟨BXf.out.cell0, BXf.out.cell1, BXf.out.cell2, BXf.out.cell3⟩
              refine wp_app4 _ (.tmp 37) (.tmp 39) 53 rfl w.heap.size 59 _ Try.underlying53 TK.out.1 TK.out.2.1 TK.out.2.2.1 TK.out.2.2.2 u4 qs.length zx rfl ho gf 1 s2 t2 m2 o2 n2 c2 p2 d2 rfl he (by have := LN.out; omega) HF.out.1.size ?_
              intro vB xB ho' hg hob
              have HK := hide (Own4.spares ho hg)
              have HF' := hide (And.intro (below_growQ HF.out.1 hg HF.out.1.size (fun g e => (ListG.lt LB.out e).1)) (And.intro (show Box4 xB g7 (.bool s1) (.slice m1 n1 c1) (.bool t1) (.slice o1 p1 d1) from (hg.block g7 HF.out.2.1.lt (fun e => absurd (LBL.out _ e.symm) (by omega))).trans HF.out.2.1) (show BoxQ xB (g7 + 1) (.bool s2) (.slice m2 n2 c2) (.bool t2) (.slice o2 p2 d2) from (hg.block (g7 + 1) HF.out.2.2.lt (fun e => absurd (LBL.out _ e.symm) (by omega))).trans HF.out.2.2)))
              have L2 := hide (ListG.app famQ ho hx I2.out ho' hg)
              have O2 := hide (ListG.other famA LA.out hg HK.out (fun g h e => AP.out g h e))
              have AP2 : Hid (∀ g, vA.ownBlock = some g → vB.ownBlock ≠ some g) := hide (fun g h1 h2 => by rcases hob with e | e; exact AP.out g h1 (e ▸ h2); have h3 := (ListG.lt LA.out h1).2; rw [e] at h2; simp only [Option.some.injEq] at h2; omega)
              replace I1 := hide (I1.out.keep HK.out)
              replace I2 := hide (I2.out.keep HK.out)
              refine hK _ _ (fun _ => HF'.out) ?_
              clear hK K HF ho hx ho' hg hob he BXf HK LA LB AP
              have HF := hide HF'.out
              clear HF'
              have LB : Hid (LGQ xB w.heap.size vB (qs ++ [q])) := hide L2.out
              have LA : Hid (LGA xB w.heap.size vA (qs ++ [q])) := hide O2.out
              have AP := hide AP2.out
              clear L2 O2 AP2
              refine Calm.takeL 10 (i := 8) (v := ?_) (a' := ?_) (l' := #[true, true, true, true, true, true, true, true, true, false]) (d := some 3) (by kernel_rfl) rfl (by kernel_rfl) (by kernel_rfl) (by kernel_rfl) (by kernel_rfl) (fun _ _ _ h => h) HF.out rfl ?_ rfl rfl ?_ ?_
              rotate_left
              · intro w' hF; clear hF; go_simp; try rfl
              rotate_left
              · simp only [Act.put]; exact rfl
              refine Calm.takeL 10 (i := 9) (v := ?_) (a' := ?_) (l' := #[true, true, true, true, true, true, true, true, true, true]) (d := some 4) (by kernel_rfl) rfl (by kernel_rfl) (by kernel_rfl) (by kernel_rfl) (by kernel_rfl) (fun _ _ _ h => h) HF.out rfl ?_ rfl rfl ?_ ?_
              rotate_left
              · intro w' hF; clear hF; go_simp; try rfl
              rotate_left
              · simp only [Act.put]; exact rfl
              refine Calm.done (by kernel_rfl) ?_
              go_wp2
              go_roundw
              case rel => exact ⟨k + 1, qs ++ [q], by omega, by go_num, HF.out.1, hide (by rw [List.length_append, QL.out]; rfl), hide (sz_snoc QS.out SQ.out), LA, LB, AP⟩
              case measure => simp [intOf]; omega
            · go_simp
              have al := below_alloc wze (.cells #[.bool s2, .slice m2 n2 c2, .bool t2, .slice o2 p2 d2] 59)
              have HF' := hide (And.intro (HF.out.1.trans ((al).mono HF.out.1.size)) (And.intro (HF.out.2.1.step (al)) (HF.out.2.2.step (al))))
              have BXf := hide (BoxQ.new wze (.bool s2) (.slice m2 n2 c2) (.bool t2) (.slice o2 p2 d2))
              replace LA := hide (LA.out.below (al))
              replace LB := hide (LB.out.below (al))
              replace I1 := hide (I1.out.below (al))
              replace I2 := hide (I2.out.below (al))
              have LTef := hide (BXe.out.lt)
              replace BXe := hide (BXe.out.step al)
              have LT1f := hide (HF.out.2.1.lt)
              have LT2f := hide (HF.out.2.2.lt)
              have GEf := hide (HF.out.1.size)
              refine hK _ _ (fun _ => HF'.out) ?_
              clear hK K HF al
              have HF := hide HF'.out
              clear HF'
              generalize wze.alloc (.cells #[.bool s2, .slice m2 n2 c2, .bool t2, .slice o2 p2 d2] 59) = wzf at *
              generalize wze.heap.size = gf at *
              refine Calm.one (i := 3) (l' := #[true, true, true, true, true, true, true, false, false, false]) (by kernel_rfl) rfl rfl rfl fun K hK => ?_
              obtain ⟨zx, ho, hx⟩ := LA.out
              have he : Cell4 wzf ge 0 (.bool s1) (.slice m1 n1 c1) (.bool t1) (.slice o1 p1 d1) := ⟨BXe.out.cell0, BXe.out.cell1, BXe.out.cell2, BXe.out.cell3⟩
              refine wp_app4 _ (.tmp 33) (.tmp 35) 52 rfl w.heap.size 27 _ Try.underlying52 TI.out.1 TI.out.2.1 TI.out.2.2.1 TI.out.2.2.2 u3 qs.length zx rfl ho ge 1 s1 t1 m1 o1 n1 c1 p1 d1 rfl he (by have := LN.out; omega) HF.out.1.size ?_
              intro vA xA ho' hg hob
              have HK := hide (Own4.spares ho hg)
              have HF' := hide (And.intro (below_growQ HF.out.1 hg HF.out.1.size (fun g e => (ListG.lt LA.out e).1)) (And.intro (show Box4 xA g7 (.bool s1) (.slice m1 n1 c1) (.bool t1) (.slice o1 p1 d1) from (hg.block g7 HF.out.2.1.lt (fun e => absurd (LAL.out _ e.symm) (by omega))).trans HF.out.2.1) (show BoxQ xA (g7 + 1) (.bool s2) (.slice m2 n2 c2) (.bool t2) (.slice o2 p2 d2) from (hg.block (g7 + 1) HF.out.2.2.lt (fun e => absurd (LAL.out _ e.symm) (by omega))).trans HF.out.2.2)))
              have L2 := hide (ListG.app famA ho hx I1.out ho' hg)
              have O2 := hide (ListG.other famQ LB.out hg HK.out (fun g h e => AP.out g e h))
              have AP2 : Hid (∀ g, vA.ownBlock = some g → u4.ownBlock ≠ some g) := hide (fun g h1 h2 => by rcases hob with e | e; exact AP.out g (e ▸ h1) h2; have h3 := (ListG.lt LB.out h2).2; rw [e] at h1; simp only [Option.some.injEq] at h1; omega)
              replace BXf := hide (show BoxQ xA gf (.bool s2) (.slice m2 n2 c2) (.bool t2) (.slice o2 p2 d2) from (hg.block gf BXf.out.lt (fun e => absurd (LAL.out _ e.symm) (by have := LT1f.out; omega))).trans BXf.out)
              replace I1 := hide (I1.out.keep HK.out)
              replace I2 := hide (I2.out.keep HK.out)
              refine hK _ _ (fun _ => HF'.out) ?_
              clear hK K HF ho hx ho' hg hob he BXe HK LA LB AP
              have HF := hide HF'.out
              clear HF'
              have LA : Hid (LGA xA w.heap.size vA (qs ++ [q])) := hide L2.out
              have LB : Hid (LGQ xA w.heap.size u4 qs) := hide O2.out
              have AP := hide AP2.out
              clear L2 O2 AP2
              refine Calm.one (i := 7) (l' := #[true, true, true, true, true, true, true, true, false, false]) (by kernel_rfl) rfl rfl rfl fun K hK => ?_
              obtain ⟨zx, ho, hx⟩ := LB.out
              have he : Cell4 xA gf 0 (.bool s2) (.slice m2 n2 c2) (.bool t2) (.slice o2 p2 d2) := ⟨BXf.out.cell0, BXf.out.cell1, BXf.out.cell2, BXf.out.cell3⟩
              refine wp_app4 _ (.tmp 37) (.tmp 39) 53 rfl w.heap.size 59 _ Try.underlying53 TK.out.1 TK.out.2.1 TK.out.2.2.1 TK.out.2.2.2 u4 qs.length zx rfl ho gf 1 s2 t2 m2 o2 n2 c2 p2 d2 rfl he (by have := LN.out; omega) HF.out.1.size ?_
              intro vB xB ho' hg hob
              have HK := hide (Own4.spares ho hg)
              have HF' := hide (And.intro (below_growQ HF.out.1 hg HF.out.1.size (fun g e => (ListG.lt LB.out e).1)) (And.intro (show Box4 xB g7 (.bool s1) (.slice m1 n1 c1) (.bool t1) (.slice o1 p1 d1) from (hg.block g7 HF.out.2.1.lt (fun e => absurd (LBL.out _ e.symm) (by omega))).trans HF.out.2.1) (show BoxQ xB (g7 + 1) (.bool s2) (.slice m2 n2 c2) (.bool t2) (.slice o2 p2 d2) from (hg.block (g7 + 1) HF.out.2.2.lt (fun e => absurd (LBL.out _ e.symm) (by omega))).trans HF.out.2.2)))
              have L2 := hide (ListG.app famQ ho hx I2.out ho' hg)
              have O2 := hide (ListG.other famA LA.out hg HK.out (fun g h e => AP.out g h e))
              have AP2 : Hid (∀ g, vA.ownBlock = some g → vB.ownBlock ≠ some g) := hide (fun g h1 h2 => by rcases hob with e | e; exact AP.out g h1 (e ▸ h2); have h3 := (ListG.lt LA.out h1).2; rw [e] at h2; simp only [Option.some.injEq] at h2; omega)
              replace I1 := hide (I1.out.keep HK.out)
              replace I2 := hide (I2.out.keep HK.out)
              refine hK _ _ (fun _ => HF'.out) ?_
              clear hK K HF ho hx ho' hg hob he BXf HK LA LB AP
              have HF := hide HF'.out
              clear HF'
              have LB : Hid (LGQ xB w.heap.size vB (qs ++ [q])) := hide L2.out
              have LA : Hid (LGA xB w.heap.size vA (qs ++ [q])) := hide O2.out
              have AP := hide AP2.out
              clear L2 O2 AP2
              refine Calm.takeL 10 (i := 8) (v := ?_) (a' := ?_) (l' := #[true, true, true, true, true, true, true, true, true, false]) (d := some 3) (by kernel_rfl) rfl (by kernel_rfl) (by kernel_rfl) (by kernel_rfl) (by kernel_rfl) (fun _ _ _ h => h) HF.out rfl ?_ rfl rfl ?_ ?_
              rotate_left
              · intro w' hF; clear hF; go_simp; try rfl
              rotate_left
              · simp only [Act.put]; exact rfl
              refine Calm.takeL 10 (i := 9) (v := ?_) (a' := ?_) (l' := #[true, true, true, true, true, true, true, true, true, true]) (d := some 4) (by kernel_rfl) rfl (by kernel_rfl) (by kernel_rfl) (by kernel_rfl) (by kernel_rfl) (fun _ _ _ h => h) HF.out rfl ?_ rfl rfl ?_ ?_
              rotate_left
              · intro w' hF; clear hF; go_simp; try rfl
              rotate_left
              · simp only [Act.put]; exact rfl
              refine Calm.done (by kernel_rfl) ?_
              go_wp2
              go_roundw
              case rel => exact ⟨k + 1, qs ++ [q], by omega, by go_num, HF.out.1, hide (by rw [List.length_append, QL.out]; rfl), hide (sz_snoc QS.out SQ.out), LA, LB, AP⟩
              case measure => simp [intOf]; omega
          · go_simp
            have al := below_alloc u1ad (.cells #[.bool s2, .slice m2 n2 c2, .bool t2, .slice o2 p2 d2] 59)
            have HF' := hide (And.intro (HF.out.1.trans ((al).mono HF.out.1.size)) (And.intro (HF.out.2.1.step (al)) (HF.out.2.2.step (al))))
            have BXf := hide (BoxQ.new u1ad (.bool s2) (.slice m2 n2 c2) (.bool t2) (.slice o2 p2 d2))
            replace LA := hide (LA.out.below (al))
            replace LB := hide (LB.out.below (al))
            replace I1 := hide (I1.out.below (al))
            replace I2 := hide (I2.out.below (al))
            have LT1f := hide (HF.out.2.1.lt)
            have LT2f := hide (HF.out.2.2.lt)
            have GEf := hide (HF.out.1.size)
            refine hK _ _ (fun _ => HF'.out) ?_
            clear hK K HF al
            have HF := hide HF'.out
            clear HF'
            generalize u1ad.alloc (.cells #[.bool s2, .slice m2 n2 c2, .bool t2, .slice o2 p2 d2] 59) = wzf at *
            generalize u1ad.heap.size = gf at *
            refine Calm.one (i := 2) (l' := #[true, true, true, false, true, true, true, false, false, false]) (by kernel_rfl) rfl rfl rfl fun K hK => ?_
            go_simp
            have al := below_alloc wzf (.cells #[.bool s1, .slice m1 n1 c1, .bool t1, .slice o1 p1 d1] 27)
            have HF' := hide (And.intro (HF.out.1.trans ((al).mono HF.out.1.size)) (And.intro (HF.out.2.1.step (al)) (HF.out.2.2.step (al))))
            have BXe := hide (Box4.new wzf (.bool s1) (.slice m1 n1 c1) (.bool t1) (.slice o1 p1 d1))
            replace LA := hide (LA.out.below (al))
            replace LB := hide (LB.out.below (al))
            replace I1 := hide (I1.out.below (al))
            replace I2 := hide (I2.out.below (al))
            have LTfe := hide (BXf.out.lt)
            replace BXf := hide (BXf.out.step al)
            have LT1e := hide (HF.out.2.1.lt)
            have LT2e := hide (HF.out.2.2.lt)
            have GEe := hide (HF.out.1.size)
            refine hK _ _ (fun _ => HF'.out) ?_
            clear hK K HF al
            have HF := hide HF'.out
            clear HF'
            generalize wzf.alloc (.cells #[.bool s1, .slice m1 n1 c1, .bool t1, .slice o1 p1 d1] 27) = wze at *
            generalize wzf.heap.size = ge at *
            refine Calm.one (i := 3) (l' := #[true, true, true, true, true, true, true, false, false, false]) (by kernel_rfl) rfl rfl rfl fun K hK => ?_
            obtain ⟨zx, ho, hx⟩ := LA.out
            have he : Cell4 wze ge 0 (.bool s1) (.slice m1 n1 c1) (.bool t1) (.slice o1 p1 d1) := ⟨BXe.out.cell0, BXe.out.cell1, BXe.out.cell2, BXe.out.cell3⟩
            refine wp_app4 _ (.tmp 33) (.tmp 35) 52 rfl w.heap.size 27 _ Try.underlying52 TI.out.1 TI.out.2.1 TI.out.2.2.1 TI.out.2.2.2 u3 qs.length zx rfl ho ge 1 s1 t1 m1 o1 n1 c1 p1 d1 rfl he (by have := LN.out; omega) HF.out.1.size ?_
            intro vA xA ho' hg hob
            have HK := hide (Own4.spares ho hg)
            have HF' := hide (And.intro (below_growQ HF.out.1 hg HF.out.1.size (fun g e => (ListG.lt LA.out e).1)) (And.intro (show Box4 xA g7 (.bool s1) (.slice m1 n1 c1) (.bool t1) (.slice o1 p1 d1) from (hg.block g7 HF.out.2.1.lt (fun e => absurd (LAL.out _ e.symm) (by omega))).trans HF.out.2.1) (show BoxQ xA (g7 + 1) (.bool s2) (.slice m2 n2 c2) (.bool t2) (.slice o2 p2 d2) from (hg.block (g7 + 1) HF.out.2.2.lt (fun e => absurd (LAL.out _ e.symm) (by omega))).trans HF.out.2.2)))
            have L2 := hide (ListG.app famA ho hx I1.out ho' hg)
            have O2 := hide (ListG.other famQ LB.out hg HK.out (fun g h e => AP.out g e h))
            have AP2 : Hid (∀ g, vA.ownBlock = some g → u4.ownBlock ≠ some g) := hide (fun g h1 h2 => by rcases hob with e | e; exact AP.out g (e ▸ h1) h2; have h3 := (ListG.lt LB.out h2).2; rw [e] at h1; simp only [Option.some.injEq] at h1; omega)
            replace BXf := hide (show BoxQ xA gf (.bool s2) (.slice m2 n2 c2) (.bool t2) (.slice o2 p2 d2) from (hg.block gf BXf.out.lt (fun e => absurd (LAL.out _ e.symm) (by have := LT1f.out; omega))).trans BXf.out)
            replace I1 := hide (I1.out.keep HK.out)
            replace I2 := hide (I2.out.keep HK.out)
            refine hK _ _ (fun _ => HF'.out) ?_
            clear hK K HF ho hx ho' hg hob he BXe HK LA LB AP
            have HF := hide HF'.out
            clear HF'
            have LA : Hid (LGA xA w.heap.size vA (qs ++ [q])) := hide L2.out
            have LB : Hid (LGQ xA w.heap.size u4 qs) := hide O2.out
            have AP := hide AP2.out
            clear L2 O2 AP2
            refine Calm.one (i := 7) (l' := #[true, true, true, true, true, true, true, true, false, false]) (by kernel_rfl) rfl rfl rfl fun K hK => ?_
            obtain ⟨zx, ho, hx⟩ := LB.out
            have he : Cell4 xA gf 0 (.bool s2) (.slice m2 n2 c2) (.bool t2) (.slice o2 p2 d2) := ⟨BXf.out.cell0, BXf.out.cell1, BXf.out.cell2, BXf.out.cell3⟩
            refine wp_app4 _ (.tmp 37) (.tmp 39) 53 rfl w.heap.size 59 _ Try.underlying53 TK.out.1 TK.out.2.1 TK.out.2.2.1 TK.out.2.2.2 u4 qs.length zx rfl ho gf 1 s2 t2 m2 o2 n2 c2 p2 d2 rfl he (by have := LN.out; omega) HF.out.1.size ?_
            intro vB xB ho' hg hob
            have HK := hide (Own4.spares ho hg)
            have HF' := hide (And.intro (below_growQ HF.out.1 hg HF.out.1.size (fun g e => (ListG.lt LB.out e).1)) (And.intro (show Box4 xB g7 (.bool s1) (.slice m1 n1 c1) (.bool t1) (.slice o1 p1 d1) from (hg.block g7 HF.out.2.1.lt (fun e => absurd (LBL.out _ e.symm) (by omega))).trans HF.out.2.1) (show BoxQ xB (g7 + 1) (.bool s2) (.slice m2 n2 c2) (.bool t2) (.slice o2 p2 d2) from (hg.block (g7 + 1) HF.out.2.2.lt (fun e => absurd (LBL.out _ e.symm) (by omega))).trans HF.out.2.2)))
            have L2 := hide (ListG.app famQ ho hx I2.out ho' hg)
            have O2 := hide (ListG.other famA LA.out hg HK.out (fun g h e => AP.out g h e))
            have AP2 : Hid (∀ g, vA.ownBlock = some g → vB.ownBlock ≠ some g) := hide (fun g h1 h2 => by rcases hob with e | e; exact AP.out g h1 (e ▸ h2); have h3 := (ListG.lt LA.out h1).2; rw [e] at h2; simp only [Option.some.injEq] at h2; omega)
            replace I1 := hide (I1.out.keep HK.out)
            replace I2 := hide (I2.out.keep HK.out)
            refine hK _ _ (fun _ => HF'.out) ?_
            clear hK K HF ho hx ho' hg hob he BXf HK LA LB AP
            have HF := hide HF'.out
            clear HF'
            have LB : Hid (LGQ xB w.heap.size vB (qs ++ [q])) := hide L2.out
            have LA : Hid (LGA xB w.heap.size vA (qs ++ [q])) := hide O2.out
            have AP := hide AP2.out
            clear L2 O2 AP2
            refine Calm.takeL 10 (i := 8) (v := ?_) (a' := ?_) (l' := #[true, true, true, true, true, true, true, true, true, false]) (d := some 3) (by kernel_rfl) rfl (by kernel_rfl) (by kernel_rfl) (by kernel_rfl) (by kernel_rfl) (fun _ _ _ h => h) HF.out rfl ?_ rfl rfl ?_ ?_
            rotate_left
            · intro w' hF; clear hF; go_simp; try rfl
            rotate_left
            · simp only [Act.put]; exact rfl
            refine Calm.takeL 10 (i := 9) (v := ?_) (a' := ?_) (l' := #[true, true, true, true, true, true, true, true, true, true]) (d := some 4) (by kernel_rfl) rfl (by kernel_rfl) (by kernel_rfl) (by kernel_rfl) (by kernel_rfl) (fun _ _ _ h => h) HF.out rfl ?_ rfl rfl ?_ ?_
            rotate_left
            · intro w' hF; clear hF; go_simp; try rfl
            rotate_left
            · simp only [Act.put]; exact rfl
            refine Calm.done (by kernel_rfl) ?_
            go_wp2
            go_roundw
            case rel => exact ⟨k + 1, qs ++ [q], by omega, by go_num, HF.out.1, hide (by rw [List.length_append, QL.out]; rfl), hide (sz_snoc QS.out SQ.out), LA, LB, AP⟩
            case measure => simp [intOf]; omega
      · have e : k = N := by omega
        subst e
        obtain ⟨w1, hwl⟩ : ∃ w1, w1 = wr := ⟨_, rfl⟩
        subst hwl
        have AS : Hid (AllSz qs) := hide ⟨by rw [QL.out]; exact SH.out.1, QS.out⟩
        have LQA : Hid (RatL w1 u3 qs) := hide (ListG.list LA.out)
        have LQB : Hid (RQL w1 u4 qs) := hide (ListG.list LB.out)
        clear LA LB AP QS
        obtain ⟨aa, ca, hva⟩ : ∃ a c, u3 = .slice a k c := by obtain ⟨a, c, e, _⟩ := LQA.out; exact ⟨a, c, by rw [e, QL.out]⟩
        subst hva
        obtain ⟨ab, cb, hvb⟩ : ∃ a c, u4 = .slice a k c := by obtain ⟨a, c, e, _⟩ := LQB.out; exact ⟨a, c, by rw [e, QL.out]⟩
        subst hvb
        have CL : Hid ((comQ qs).length = k) := hide (by rw [comQ_len, QL.out])
        go_wp2_with fail
        refine (rtcom_any _ qs _ LQA.out AS.out).mono ?_
        rintro e u5 ⟨va, v2, rfl, hi, kx, hb⟩
        obtain ⟨s1, m1, n1, c1, rfl, ky⟩ := kx.cells
        obtain ⟨la, ka, hv⟩ : ∃ a c, va = .slice a k c := by obtain ⟨a, c, e, _⟩ := hi; exact ⟨a, c, by rw [e, CL.out]⟩
        subst hv
        replace HB := hide (HB.out.trans ((hb).mono HB.out.size))
        replace LQA := hide (LQA.out.below (hb))
        replace LQB := hide (LQB.out.below (hb))
        have I1 := hide (ky)
        have J1 := hide (hi)
        clear hb kx ky hi
        go_upto_region 16 with fail
        have al := below_alloc u5 (.cells #[.bool s1, .slice m1 n1 c1] 25)
        replace HB := hide (HB.out.trans ((al).mono HB.out.size))
        replace LQA := hide (LQA.out.below (al))
        replace LQB := hide (LQB.out.below (al))
        replace I1 := hide (I1.out.below (al))
        replace J1 := hide (J1.out.below (al))
        have V1 := hide (Box.new u5 (.bool s1) (.slice m1 n1 c1))
        clear al
        generalize u5.alloc (.cells #[.bool s1, .slice m1 n1 c1] 25) = u5a at *
        generalize u5.heap.size = g1 at *
        go_wp2_with fail
        refine (r3com_any _ qs _ LQB.out AS.out).mono ?_
        rintro e u6 ⟨vb, v2, rfl, hi, kx, hb⟩
        obtain ⟨s2, m2, n2, c2, rfl, ky⟩ := kx.cells
        obtain ⟨lb, kb, hv⟩ : ∃ a c, vb = .slice a k c := by obtain ⟨a, c, e, _⟩ := hi; exact ⟨a, c, by rw [e, CL.out]⟩
        subst hv
        replace HB := hide (HB.out.trans ((hb).mono HB.out.size))
        replace LQA := hide (LQA.out.below (hb))
        replace LQB := hide (LQB.out.below (hb))
        replace I1 := hide (I1.out.below (hb))
        replace J1 := hide (J1.out.below (hb))
        replace V1 := hide (V1.out.step (hb))
        have I2 := hide (ky)
        have J2 := hide (hi)
        clear hb kx ky hi
        go_upto_region 17 with fail
        have al := below_alloc u6 (.cells #[.bool s2, .slice m2 n2 c2] 57)
        replace HB := hide (HB.out.trans ((al).mono HB.out.size))
        replace LQA := hide (LQA.out.below (al))
        replace LQB := hide (LQB.out.below (al))
        replace I1 := hide (I1.out.below (al))
        replace J1 := hide (J1.out.below (al))
        replace V1 := hide (V1.out.step (al))
        replace I2 := hide (I2.out.below (al))
        replace J2 := hide (J2.out.below (al))
        have V2 := hide (BoxR.new u6 (.bool s2) (.slice m2 n2 c2))
        clear al
        generalize u6.alloc (.cells #[.bool s2, .slice m2 n2 c2] 57) = u6a at *
        generalize u6.heap.size = g2 at *
        have ZL : Hid (SzI 4000 (lcmQ qs)) := hide (by have hh := lcmQ_sz5 qs AS.out qs.length (Nat.le_refl _); rw [List.take_length] at hh; exact hh)
        have ZS : Hid (SzR 4000 (sumQ qs)) := hide (by have hh := sumQ_sz5 qs AS.out qs.length (Nat.le_refl _); rw [List.take_length] at hh; exact hh)
        generalize lcmQ qs = Lm at I1 I2 ZL
        by_cases h0 : k = 0
        · have z1 : ((k : Int) == 0) = true := by rw [beq_iff_eq]; omega
          have z2 : ((k : Int) != 0) = false := by rw [bne_eq_false_iff_eq]; omega
          clear h0
          go_wp2_with fail
          refine wp_calm (fun w' => Below w.heap.size w w' ∧ Box w' g1 (.bool s1) (.slice m1 n1 c1) ∧ IntAt w' (.agg #[.bool s1, .slice m1 n1 c1]) Lm ∧ BoxR w' g2 (.bool s2) (.slice m2 n2 c2) ∧ RInt w' (.agg #[.bool s2, .slice m2 n2 c2]) Lm ∧ RatL w' (.slice aa k ca) qs ∧ RQL w' (.slice ab k cb) qs ∧ Ints w' (.slice la k ka) (comQ qs) ∧ RInts w' (.slice lb k kb) (comQ qs)) (fun _ => true) 30 #[false, false, false, false, false, false, false, false, false, false, false, false, false, false, false, false, false, false, false, false, false, false, false, false, false, false, false, false, false, false] (by kernel_rfl) rfl rfl ?_
          have HF := hide (And.intro (HB.out.drew) (And.intro (V1.out.drew) (And.intro (I1.out.drew) (And.intro (V2.out.drew) (And.intro (I2.out.drew) (And.intro (LQA.out.drew) (And.intro (LQB.out.drew) (And.intro (J1.out.drew) (J2.out.drew)))))))))
          generalize u6a.drew = u6ad at *
          refine Calm.takeL 30 (i := 0) (v := ?_) (a' := ?_) (l' := #[true, false, false, false, false, false, false, false, false, false, false, false, false, false, false, false, false, false, false, false, false, false, false, false, false, false, false, false, false, false]) (d := some 52) (by kernel_rfl) rfl (by kernel_rfl) (by kernel_rfl) (by kernel_rfl) (by kernel_rfl) (fun _ _ _ h => h) HF.out rfl ?_ rfl rfl ?_ ?_
          rotate_left
          · intro w' hF; clear hF; go_simp; try rfl
          rotate_left
          · simp only [Act.put]; exact rfl
          refine Calm.takeL 30 (i := 1) (v := ?_) (a' := ?_) (l' := #[true, true, false, false, false, false, false, false, false, false, false, false, false, false, false, false, false, false, false, false, false, false, false, false, false, false, false, false, false, false]) (d := some 53) (by kernel_rfl) rfl (by kernel_rfl) (by kernel_rfl) (by kernel_rfl) (by kernel_rfl) (fun _ _ _ h => h) HF.out rfl ?_ rfl rfl ?_ ?_
          rotate_left
          · intro w' hF; clear hF; go_simp; try rfl
          rotate_left
          · simp only [Act.put]; exact rfl
          refine Calm.takeL 30 (i := 2) (v := ?_) (a' := ?_) (l' := #[true, true, true, false, false, false, false, false, false, false, false, false, false, false, false, false, false, false, false, false, false, false, false, false, false, false, false, false, false, false]) (d := some 54) (by kernel_rfl) rfl (by kernel_rfl) (by kernel_rfl) (by kernel_rfl) (by kernel_rfl) (fun _ _ _ h => h) HF.out rfl ?_ rfl rfl ?_ ?_
          rotate_left
          · intro w' hF; clear hF; go_simp; try rfl
          rotate_left
          · simp only [Act.put]; exact rfl
          refine Calm.takeL 30 (i := 3) (v := ?_) (a' := ?_) (l' := #[true, true, true, true, false, false, false, false, false, false, false, false, false, false, false, false, false, false, false, false, false, false, false, false, false, false, false, false, false, false]) (d := some 55) (by kernel_rfl) rfl (by kernel_rfl) (by kernel_rfl) (by kernel_rfl) (by kernel_rfl) (fun _ _ _ h => h) HF.out rfl ?_ rfl rfl ?_ ?_
          rotate_left
          · intro w' hF; clear hF; go_simp; try rfl
          rotate_left
          · simp only [Act.put]; exact rfl
          refine Calm.takeL 30 (i := 4) (v := ?_) (a' := ?_) (l' := #[true, true, true, true, true, false, false, false, false, false, false, false, false, false, false, false, false, false, false, false, false, false, false, false, false, false, false, false, false, false]) (d := some 56) (by kernel_rfl) rfl (by kernel_rfl) (by kernel_rfl) (by kernel_rfl) (by kernel_rfl) (fun _ _ _ h => h) HF.out rfl ?_ rfl rfl ?_ ?_
          rotate_left
          · intro w' hF; clear hF; go_simp; try rfl
          rotate_left
          · simp only [Act.put]; exact rfl
          refine Calm.takeL 30 (i := 5) (v := ?_) (a' := ?_) (l' := #[true, true, true, true, true, true, false, false, false, false, false, false, false, false, false, false, false, false, false, false, false, false, false, false, false, false, false, false, false, false]) (d := some 57) (by kernel_rfl) rfl (by kernel_rfl) (by kernel_rfl) (by kernel_rfl) (by kernel_rfl) (fun _ _ _ h => h) HF.out rfl ?_ rfl rfl ?_ ?_
          rotate_left
          · intro w' hF; clear hF; go_simp; try rfl
          rotate_left
          · simp only [Act.put]; exact rfl
          refine Calm.takeL 30 (i := 6) (v := ?_) (a' := ?_) (l' := #[true, true, true, true, true, true, true, false, false, false, false, false, false, false, false, false, false, false, false, false, false, false, false, false, false, false, false, false, false, false]) (d := some 58) (by kernel_rfl) rfl (by kernel_rfl) (by kernel_rfl) (by kernel_rfl) (by kernel_rfl) (fun _ _ _ h => h) HF.out (by kernel_rfl) ?_ rfl rfl ?_ ?_
          rotate_left
          · intro w' hF; clear hF; go_simp; try rfl
          rotate_left
          · simp only [Act.put]; exact rfl
          refine Calm.takeL 30 (i := 7) (v := ?_) (a' := ?_) (l' := #[true, true, true, true, true, true, true, true, false, false, false, false, false, false, false, false, false, false, false, false, false, false, false, false, false, false, false, false, false, false]) (d := some 59) (by kernel_rfl) rfl (by kernel_rfl) (by kernel_rfl) (by kernel_rfl) (by kernel_rfl) (fun _ _ _ h => h) HF.out (by kernel_rfl) ?_ rfl rfl ?_ ?_
          rotate_left
          · intro w' hF; clear hF; go_simp; try rfl
          rotate_left
          · simp only [Act.put]; exact rfl
          refine Calm.takeL 30 (i := 8) (v := ?_) (a' := ?_) (l' := #[true, true, true, true, true, true, true, true, true, false, false, false, false, false, false, false, false, false, false, false, false, false, false, false, false, false, false, false, false, false]) (d := some 60) (by kernel_rfl) rfl (by kernel_rfl) (by kernel_rfl) (by kernel_rfl) (by kernel_rfl) (fun _ _ _ h => h) HF.out (by kernel_rfl) ?_ rfl rfl ?_ ?_
          rotate_left
          · intro w' hF; clear hF; go_simp; try rfl
          rotate_left
          · simp only [Act.put]; exact rfl
          refine Calm.takeL 30 (i := 9) (v := ?_) (a' := ?_) (l' := #[true, true, true, true, true, true, true, true, true, true, false, false, false, false, false, false, false, false, false, false, false, false, false, false, false, false, false, false, false, false]) (d := some 61) (by kernel_rfl) rfl (by kernel_rfl) (by kernel_rfl) (by kernel_rfl) (by kernel_rfl) (fun _ _ _ h => h) HF.out (by kernel_rfl) ?_ rfl rfl ?_ ?_
          rotate_left
          · intro w' hF; clear hF; go_simp; try rfl
          rotate_left
          · simp only [Act.put]; exact rfl
          refine Calm.takeL 30 (i := 10) (v := ?_) (a' := ?_) (l' := #[true, true, true, true, true, true, true, true, true, true, true, false, false, false, false, false, false, false, false, false, false, false, false, false, false, false, false, false, false, false]) (d := some 62) (by kernel_rfl) rfl (by kernel_rfl) (by kernel_rfl) (by kernel_rfl) (by kernel_rfl) (fun _ _ _ h => h) HF.out (by kernel_rfl) ?_ rfl rfl ?_ ?_
          rotate_left
          · intro w' hF; clear hF; go_simp; try rfl
          rotate_left
          · simp only [Act.put]; exact rfl
          refine Calm.takeL 30 (i := 11) (v := ?_) (a' := ?_) (l' := #[true, true, true, true, true, true, true, true, true, true, true, true, false, false, false, false, false, false, false, false, false, false, false, false, false, false, false, false, false, false]) (d := some 63) (by kernel_rfl) rfl (by kernel_rfl) (by kernel_rfl) (by kernel_rfl) (by kernel_rfl) (fun _ _ _ h => h) HF.out (by kernel_rfl) ?_ rfl rfl ?_ ?_
          rotate_left
          · intro w' hF; clear hF; go_simp; try rfl
          rotate_left
          · simp only [Act.put]; exact rfl
          refine Calm.takeL 30 (i := 12) (v := ?_) (a' := ?_) (l' := #[true, true, true, true, true, true, true, true, true, true, true, true, true, false, false, false, false, false, false, false, false, false, false, false, false, false, false, false, false, false]) (d := some 64) (by kernel_rfl) rfl (by kernel_rfl) (by kernel_rfl) (by kernel_rfl) (by kernel_rfl) (fun _ _ _ h => h) HF.out (by kernel_rfl) ?_ rfl rfl ?_ ?_
          rotate_left
          · intro w' hF; clear hF; go_simp; try rfl
          rotate_left
          · simp only [Act.put]; exact rfl
          refine Calm.takeL 30 (i := 13) (v := ?_) (a' := ?_) (l' := #[true, true, true, true, true, true, true, true, true, true, true, true, true, true, false, false, false, false, false, false, false, false, false, false, false, false, false, false, false, false]) (d := some 65) (by kernel_rfl) rfl (by kernel_rfl) (by kernel_rfl) (by kernel_rfl) (by kernel_rfl) (fun _ _ _ h => h) HF.out (by kernel_rfl) ?_ rfl rfl ?_ ?_
          rotate_left
          · intro w' hF; clear hF; go_simp; try rfl
          rotate_left
          · simp only [Act.put]; exact rfl
          refine Calm.takeL 30 (i := 14) (v := ?_) (a' := ?_) (l' := #[true, true, true, true, true, true, true, true, true, true, true, true, true, true, true, false, false, false, false, false, false, false, false, false, false, false, false, false, false, false]) (d := some 66) (by kernel_rfl) rfl (by kernel_rfl) (by kernel_rfl) (by kernel_rfl) (by kernel_rfl) (fun _ _ _ h => h) HF.out rfl ?_ rfl rfl ?_ ?_
          rotate_left
          · intro w' hF; clear hF; go_simp; try rfl
          rotate_left
          · simp only [Act.put]; exact rfl
          refine Calm.takeL 30 (i := 15) (v := ?_) (a' := ?_) (l' := #[true, true, true, true, true, true, true, true, true, true, true, true, true, true, true, true, false, false, false, false, false, false, false, false, false, false, false, false, false, false]) (d := some 67) (by kernel_rfl) rfl (by kernel_rfl) (by kernel_rfl) (by kernel_rfl) (by kernel_rfl) (fun _ _ _ h => h) HF.out rfl ?_ rfl rfl ?_ ?_
          rotate_left
          · intro w' hF; clear hF; go_simp; try rfl
          rotate_left
          · simp only [Act.put]; exact rfl
          refine Calm.takeL 30 (i := 16) (v := ?_) (a' := ?_) (l' := #[true, true, true, true, true, true, true, true, true, true, true, true, true, true, true, true, true, false, false, false, false, false, false, false, false, false, false, false, false, false]) (d := some 68) (by kernel_rfl) rfl (by kernel_rfl) (by kernel_rfl) (by kernel_rfl) (by kernel_rfl) (fun _ _ _ h => h) HF.out (by kernel_rfl) ?_ rfl rfl ?_ ?_
          rotate_left
          · intro w' hF; have f10 := hF.2.1.cell0; have f11 := hF.2.1.cell1; have f30 := hF.2.2.2.1.cell0; have f31 := hF.2.2.2.1.cell1; clear hF; go_simp; try rfl
          rotate_left
          · simp only [Act.put]; exact rfl
          refine Calm.takeL 30 (i := 18) (v := ?_) (a' := ?_) (l' := #[true, true, true, true, true, true, true, true, true, true, true, true, true, true, true, true, true, false, true, false, false, false, false, false, false, false, false, false, false, false]) (d := some 70) (by kernel_rfl) rfl (by kernel_rfl) (by kernel_rfl) (by kernel_rfl) (by kernel_rfl) (fun _ _ _ h => h) HF.out (by kernel_rfl) ?_ rfl rfl ?_ ?_
          rotate_left
          · intro w' hF; have f10 := hF.2.1.cell0; have f11 := hF.2.1.cell1; have f30 := hF.2.2.2.1.cell0; have f31 := hF.2.2.2.1.cell1; clear hF; go_simp; try rfl
          rotate_left
          · simp only [Act.put]; exact rfl
          refine Calm.one (i := 17) (l' := #[true, true, true, true, true, true, true, true, true, true, true, true, true, true, true, true, true, true, true, false, false, false, false, false, false, false, false, false, false, false]) (by kernel_rfl) rfl (by kernel_rfl) rfl fun K hK => ?_
          go_simp
          refine (itext_any _ Lm _ HF.out.2.2.1 (SzI.len (ZL.out) (show 4000 ≤ 1000000000 by decide))).mono ?_
          rintro e y1 ⟨rfl, hb⟩
          have HF' := hide (And.intro (HF.out.1.trans ((hb).mono HF.out.1.size)) (And.intro (HF.out.2.1.step (hb)) (And.intro (HF.out.2.2.1.below (hb)) (And.intro (HF.out.2.2.2.1.step (hb)) (And.intro (HF.out.2.2.2.2.1.below (hb)) (And.intro (HF.out.2.2.2.2.2.1.below (hb)) (And.intro (HF.out.2.2.2.2.2.2.1.below (hb)) (And.intro (HF.out.2.2.2.2.2.2.2.1.below (hb)) (HF.out.2.2.2.2.2.2.2.2.below (hb))))))))))
          refine hK _ _ (fun _ => HF'.out) ?_
          clear hK K HF hb
          have HF := hide HF'.out
          clear HF'
          refine Calm.one (i := 19) (l' := #[true, true, true, true, true, true, true, true, true, true, true, true, true, true, true, true, true, true, true, true, false, false, false, false, false, false, false, false, false, false]) (by kernel_rfl) rfl (by kernel_rfl) rfl fun K hK => ?_
          go_simp
          refine (rtext2_any _ Lm _ HF.out.2.2.2.2.1 (SzI.d6 (ZL.out) (show 2 * 4000 ≤ 1000000 by decide))).mono ?_
          rintro e y2 ⟨rfl, hb⟩
          have HF' := hide (And.intro (HF.out.1.trans ((hb).mono HF.out.1.size)) (And.intro (HF.out.2.1.step (hb)) (And.intro (HF.out.2.2.1.below (hb)) (And.intro (HF.out.2.2.2.1.step (hb)) (And.intro (HF.out.2.2.2.2.1.below (hb)) (And.intro (HF.out.2.2.2.2.2.1.below (hb)) (And.intro (HF.out.2.2.2.2.2.2.1.below (hb)) (And.intro (HF.out.2.2.2.2.2.2.2.1.below (hb)) (HF.out.2.2.2.2.2.2.2.2.below (hb))))))))))
          refine hK _ _ (fun _ => HF'.out) ?_
          clear hK K HF hb
          have HF := hide HF'.out
          clear HF'
          refine Calm.takeL 30 (i := 20) (v := ?_) (a' := ?_) (l' := #[true, true, true, true, true, true, true, true, true, true, true, true, true, true, true, true, true, true, true, true, true, false, false, false, false, false, false, false, false, false]) (d := some 72) (by kernel_rfl) rfl (by kernel_rfl) (by kernel_rfl) (by kernel_rfl) (by kernel_rfl) (fun _ _ _ h => h) HF.out (by kernel_rfl) ?_ rfl rfl ?_ ?_
          rotate_left
          · intro w' hF; clear hF; go_simp; try rfl
          rotate_left
          · simp only [Act.put]; exact rfl
          refine Calm.takeL 30 (i := 21) (v := ?_) (a' := ?_) (l' := #[true, true, true, true, true, true, true, true, true, true, true, true, true, true, true, true, true, true, true, true, true, true, false, false, false, false, false, false, false, false]) (d := some 73) (by kernel_rfl) rfl (by kernel_rfl) (by kernel_rfl) (by kernel_rfl) (by kernel_rfl) (fun _ _ _ h => h) HF.out rfl ?_ rfl rfl ?_ ?_
          rotate_left
          · intro w' hF; clear hF; go_simp; try rfl
          rotate_left
          · simp only [Act.put]; exact rfl
          refine Calm.takeL 30 (i := 22) (v := ?_) (a' := ?_) (l' := #[true, true, true, true, true, true, true, true, true, true, true, true, true, true, true, true, true, true, true, true, true, true, true, false, false, false, false, false, false, false]) (d := some 74) (by kernel_rfl) rfl (by kernel_rfl) (by kernel_rfl) (by kernel_rfl) (by kernel_rfl) (fun _ _ _ h => h) HF.out rfl ?_ rfl rfl ?_ ?_
          rotate_left
          · intro w' hF; clear hF; go_simp; try rfl
          rotate_left
          · simp only [Act.put]; exact rfl
          refine Calm.takeL 30 (i := 23) (v := ?_) (a' := ?_) (l' := #[true, true, true, true, true, true, true, true, true, true, true, true, true, true, true, true, true, true, true, true, true, true, true, true, false, false, false, false, false, false]) (d := some 75) (by kernel_rfl) rfl (by kernel_rfl) (by kernel_rfl) (by kernel_rfl) (by kernel_rfl) (fun _ _ _ h => h) HF.out (by kernel_rfl) ?_ rfl rfl ?_ ?_
          rotate_left
          · intro w' hF; clear hF; go_simp; try rfl
          rotate_left
          · simp only [Act.put]; exact rfl
          refine Calm.takeL 30 (i := 25) (v := ?_) (a' := ?_) (l' := #[true, true, true, true, true, true, true, true, true, true, true, true, true, true, true, true, true, true, true, true, true, true, true, true, false, true, false, false, false, false]) (d := some 77) (by kernel_rfl) rfl (by kernel_rfl) (by kernel_rfl) (by kernel_rfl) (by kernel_rfl) (fun _ _ _ h => h) HF.out (by kernel_rfl) ?_ rfl rfl ?_ ?_
          rotate_left
          · intro w' hF; clear hF; go_simp; try rfl
          rotate_left
          · simp only [Act.put]; exact rfl
          refine Calm.one (i := 24) (l' := #[true, true, true, true, true, true, true, true, true, true, true, true, true, true, true, true, true, true, true, true, true, true, true, true, true, true, false, false, false, false]) (by kernel_rfl) rfl (by kernel_rfl) rfl fun K hK => ?_
          go_simp
          refine (rtsum_any _ qs _ HF.out.2.2.2.2.2.1 AS.out).mono ?_
          rintro e y3 ⟨v, rfl, n, hb⟩
          have HF' := hide (And.intro (HF.out.1.trans ((hb).mono HF.out.1.size)) (And.intro (HF.out.2.1.step (hb)) (And.intro (HF.out.2.2.1.below (hb)) (And.intro (HF.out.2.2.2.1.step (hb)) (And.intro (HF.out.2.2.2.2.1.below (hb)) (And.intro (HF.out.2.2.2.2.2.1.below (hb)) (And.intro (HF.out.2.2.2.2.2.2.1.below (hb)) (And.intro (HF.out.2.2.2.2.2.2.2.1.below (hb)) (HF.out.2.2.2.2.2.2.2.2.below (hb))))))))))
          have TA := hide (n)
          refine hK _ _ (fun _ => HF'.out) ?_
          clear hK K HF hb n
          have HF := hide HF'.out
          clear HF'
          refine Calm.one (i := 26) (l' := #[true, true, true, true, true, true, true, true, true, true, true, true, true, true, true, true, true, true, true, true, true, true, true, true, true, true, true, false, false, false]) (by kernel_rfl) rfl (by kernel_rfl) rfl fun K hK => ?_
          go_simp
          refine (r3sum_any _ qs _ HF.out.2.2.2.2.2.2.1 AS.out).mono ?_
          rintro e y4 ⟨v, rfl, n, hb⟩
          replace TA := hide (TA.out.below (hb))
          have HF' := hide (And.intro (HF.out.1.trans ((hb).mono HF.out.1.size)) (And.intro (HF.out.2.1.step (hb)) (And.intro (HF.out.2.2.1.below (hb)) (And.intro (HF.out.2.2.2.1.step (hb)) (And.intro (HF.out.2.2.2.2.1.below (hb)) (And.intro (HF.out.2.2.2.2.2.1.below (hb)) (And.intro (HF.out.2.2.2.2.2.2.1.below (hb)) (And.intro (HF.out.2.2.2.2.2.2.2.1.below (hb)) (HF.out.2.2.2.2.2.2.2.2.below (hb))))))))))
          have TB := hide (n)
          refine hK _ _ (fun _ => HF'.out) ?_
          clear hK K HF hb n
          have HF := hide HF'.out
          clear HF'
          refine Calm.one (i := 27) (l' := #[true, true, true, true, true, true, true, true, true, true, true, true, true, true, true, true, true, true, true, true, true, true, true, true, true, true, true, true, false, false]) (by kernel_rfl) rfl (by kernel_rfl) rfl fun K hK => ?_
          go_simp
          refine (is3_yes _ _ (sumQ qs) _ TA.out TB.out (ZS.out.mono (by decide))).mono ?_
          rintro e y5 ⟨rfl, hb⟩
          clear TA
          clear TB
          have HF' := hide (And.intro (HF.out.1.trans ((hb).mono HF.out.1.size)) (And.intro (HF.out.2.1.step (hb)) (And.intro (HF.out.2.2.1.below (hb)) (And.intro (HF.out.2.2.2.1.step (hb)) (And.intro (HF.out.2.2.2.2.1.below (hb)) (And.intro (HF.out.2.2.2.2.2.1.below (hb)) (And.intro (HF.out.2.2.2.2.2.2.1.below (hb)) (And.intro (HF.out.2.2.2.2.2.2.2.1.below (hb)) (HF.out.2.2.2.2.2.2.2.2.below (hb))))))))))
          refine hK _ _ (fun _ => HF'.out) ?_
          clear hK K HF hb
          have HF := hide HF'.out
          clear HF'
          refine Calm.takeL 30 (i := 28) (v := ?_) (a' := ?_) (l' := #[true, true, true, true, true, true, true, true, true, true, true, true, true, true, true, true, true, true, true, true, true, true, true, true, true, true, true, true, true, false]) (d := some 80) (by kernel_rfl) rfl (by kernel_rfl) (by kernel_rfl) (by kernel_rfl) (by kernel_rfl) (fun _ _ _ h => h) HF.out (by kernel_rfl) ?_ rfl rfl ?_ ?_
          rotate_left
          · intro w' hF; clear hF; go_simp; try rfl
          rotate_left
          · simp only [Act.put]; exact rfl
          refine Calm.takeL 30 (i := 29) (v := ?_) (a' := ?_) (l' := #[true, true, true, true, true, true, true, true, true, true, true, true, true, true, true, true, true, true, true, true, true, true, true, true, true, true, true, true, true, true]) (d := some 81) (by kernel_rfl) rfl (by kernel_rfl) (by kernel_rfl) (by kernel_rfl) (by kernel_rfl) (fun _ _ _ h => h) HF.out rfl ?_ rfl rfl ?_ ?_
          rotate_left
          · intro w' hF; clear hF; go_simp; try rfl
          rotate_left
          · simp only [Act.put]; exact rfl
          refine Calm.done (by kernel_rfl) ?_
          replace HB := hide HF.out.1
          replace LQA := hide HF.out.2.2.2.2.2.1
          replace LQB := hide HF.out.2.2.2.2.2.2.1
          replace J1 := hide HF.out.2.2.2.2.2.2.2.1
          replace J2 := hide HF.out.2.2.2.2.2.2.2.2
          clear HF V1 V2 I1 I2 z1 z2
          try simp only [List.setIfInBounds_toArray, List.set_cons_succ, List.set_cons_zero]
          go_wp2
          go_loopw [14, 84] (fun _ iv wr => ∃ j : Nat, j ≤ k ∧ iv = .int .i64 j ∧ Below y5.heap.size y5 wr) (fun _ iv _ => k - (intOf iv).toNat)
          case atStart => exact ⟨0, Nat.zero_le _, rfl, Below.refl _ _⟩
          case round =>
            obtain ⟨j, hj, rfl, hb⟩ := hrel
            have HB2 := hide hb
            by_cases hlt : j < k
            · have HLC : Hid (j < (comQ qs).length) := hide (by rw [CL.out]; exact hlt)
              have HLQ : Hid (j < qs.length) := hide (by rw [QL.out]; exact hlt)
              have SZ := hide (comQ_sz qs AS.out j HLQ.out)
              have SQ := hide (AS.out.2 j HLQ.out)
              obtain ⟨b1, f1, rfl, s1, m1, n1, c1, k1a, k1b, i1⟩ := (J1.out.below hb).at HLC.out
              obtain ⟨b2, f2, rfl, s2, m2, n2, c2, k2a, k2b, i2⟩ := (J2.out.below hb).at HLC.out
              obtain ⟨b3, f3, rfl, s3, m3, n3, c3, t3, o3, p3, d3, c3c, i3⟩ := ListQ.at (LQA.out.below hb) HLQ.out
              obtain ⟨b4, f4, rfl, s4, m4, n4, c4, t4, o4, p4, d4, c4c, i4⟩ := ListQ.at (LQB.out.below hb) HLQ.out
              generalize (comQ qs).getD j 0 = z at i1 i2 SZ
              generalize qs.getD j 0 = q at i3 i4 SQ
              have K1A := hide k1a
              clear k1a
              have K1B := hide k1b
              clear k1b
              have I1 := hide i1
              clear i1
              have K2A := hide k2a
              clear k2a
              have K2B := hide k2b
              clear k2b
              have I2 := hide i2
              clear i2
              have C3C := hide c3c
              clear c3c
              have I3 := hide i3
              clear i3
              have C4C := hide c4c
              clear c4c
              have I4 := hide i4
              clear i4
              clear hb
              have hltI : (j : Int) < (k : Int) := by omega
              go_wp2_with fail
              refine wp_calm (fun w' => Below y5.heap.size y5 w' ∧ CellAt w' ⟨b1, f1 + j * 2, none⟩ (.bool s1) ∧ CellAt w' ⟨b1, f1 + j * 2 + 1, none⟩ (.slice m1 n1 c1) ∧ IntAt w' (.agg #[.bool s1, .slice m1 n1 c1]) z ∧ CellAt w' ⟨b2, f2 + j * 2, none⟩ (.bool s2) ∧ CellAt w' ⟨b2, f2 + j * 2 + 1, none⟩ (.slice m2 n2 c2) ∧ RInt w' (.agg #[.bool s2, .slice m2 n2 c2]) z ∧ Cell4 w' b3 (f3 + j * 4) (.bool s3) (.slice m3 n3 c3) (.bool t3) (.slice o3 p3 d3) ∧ RatAt w' (.agg #[.bool s3, .slice m3 n3 c3, .bool t3, .slice o3 p3 d3]) q ∧ Cell4 w' b4 (f4 + j * 4) (.bool s4) (.slice m4 n4 c4) (.bool t4) (.slice o4 p4 d4) ∧ RQ w' (.agg #[.bool s4, .slice m4 n4 c4, .bool t4, .slice o4 p4 d4]) q) (fun _ => true) 23 #[false, false, false, false, false, false, false, false, false, false, false, false, false, false, false, false, false, false, false, false, false, false, false] (by kernel_rfl) rfl rfl ?_
              have HF := hide (And.intro (HB2.out.drew) (And.intro (K1A.out.drew) (And.intro (K1B.out.drew) (And.intro (I1.out.drew) (And.intro (K2A.out.drew) (And.intro (K2B.out.drew) (And.intro (I2.out.drew) (And.intro (C3C.out.drew) (And.intro (I3.out.drew) (And.intro (C4C.out.drew) (I4.out.drew)))))))))))
              generalize wr.drew = wrd at *
              refine Calm.takeL 23 (i := 0) (v := ?_) (a' := ?_) (l' := #[true, false, false, false, false, false, false, false, false, false, false, false, false, false, false, false, false, false, false, false, false, false, false]) (d := some 87) (by kernel_rfl) rfl (by kernel_rfl) (by kernel_rfl) (by kernel_rfl) (by kernel_rfl) (fun _ _ _ h => h) HF.out rfl ?_ rfl rfl ?_ ?_
              rotate_left
              · intro w' hF; clear hF; go_simp; try rfl
              rotate_left
              · simp only [Act.put]; exact rfl
              refine Calm.takeL 23 (i := 1) (v := ?_) (a' := ?_) (l' := #[true, true, false, false, false, false, false, false, false, false, false, false, false, false, false, false, false, false, false, false, false, false, false]) (d := some 88) (by kernel_rfl) rfl (by kernel_rfl) (by kernel_rfl) (by kernel_rfl) (by kernel_rfl) (fun _ _ _ h => h) HF.out rfl ?_ rfl rfl ?_ ?_
              rotate_left
              · intro w' hF; clear hF; go_simp; try rfl
              rotate_left
              · simp only [Act.put]; exact rfl
              refine Calm.takeL 23 (i := 2) (v := ?_) (a' := ?_) (l' := #[true, true, true, false, false, false, false, false, false, false, false, false, false, false, false, false, false, false, false, false, false, false, false]) (d := some 89) (by kernel_rfl) rfl (by kernel_rfl) (by kernel_rfl) (by kernel_rfl) (by kernel_rfl) (fun _ _ _ h => h) HF.out rfl ?_ rfl rfl ?_ ?_
              rotate_left
              · intro w' hF; clear hF; go_simp; try rfl
              rotate_left
              · simp only [Act.put]; exact rfl
              refine Calm.takeL 23 (i := 3) (v := ?_) (a' := ?_) (l' := #[true, true, true, true, false, false, false, false, false, false, false, false, false, false, false, false, false, false, false, false, false, false, false]) (d := some 90) (by kernel_rfl) rfl (by kernel_rfl) (by kernel_rfl) (by kernel_rfl) (by kernel_rfl) (fun _ _ _ h => h) HF.out rfl ?_ rfl rfl ?_ ?_
              rotate_left
              · intro w' hF; have f10 := hF.2.1.out; have f20 := hF.2.2.1.out; have f40 := hF.2.2.2.2.1.out; have f50 := hF.2.2.2.2.2.1.out; have f70 := hF.2.2.2.2.2.2.2.1.cell0; have f71 := hF.2.2.2.2.2.2.2.1.cell1; have f72 := hF.2.2.2.2.2.2.2.1.cell2; have f73 := hF.2.2.2.2.2.2.2.1.cell3; have f90 := hF.2.2.2.2.2.2.2.2.2.1.cell0; have f91 := hF.2.2.2.2.2.2.2.2.2.1.cell1; have f92 := hF.2.2.2.2.2.2.2.2.2.1.cell2; have f93 := hF.2.2.2.2.2.2.2.2.2.1.cell3; clear hF; go_simp; try rfl
              rotate_left
              · simp only [Act.put]; exact rfl
              refine Calm.takeL 23 (i := 5) (v := ?_) (a' := ?_) (l' := #[true, true, true, true, false, true, false, false, false, false, false, false, false, false, false, false, false, false, false, false, false, false, false]) (d := some 92) (by kernel_rfl) rfl (by kernel_rfl) (by kernel_rfl) (by kernel_rfl) (by kernel_rfl) (fun _ _ _ h => h) HF.out rfl ?_ rfl rfl ?_ ?_
              rotate_left
              · intro w' hF; clear hF; go_simp; try rfl
              rotate_left
              · simp only [Act.put]; exact rfl
              refine Calm.takeL 23 (i := 6) (v := ?_) (a' := ?_) (l' := #[true, true, true, true, false, true, true, false, false, false, false, false, false, false, false, false, false, false, false, false, false, false, false]) (d := some 93) (by kernel_rfl) rfl (by kernel_rfl) (by kernel_rfl) (by kernel_rfl) (by kernel_rfl) (fun _ _ _ h => h) HF.out rfl ?_ rfl rfl ?_ ?_
              rotate_left
              · intro w' hF; clear hF; go_simp; try rfl
              rotate_left
              · simp only [Act.put]; exact rfl
              refine Calm.takeL 23 (i := 7) (v := ?_) (a' := ?_) (l' := #[true, true, true, true, false, true, true, true, false, false, false, false, false, false, false, false, false, false, false, false, false, false, false]) (d := some 94) (by kernel_rfl) rfl (by kernel_rfl) (by kernel_rfl) (by kernel_rfl) (by kernel_rfl) (fun _ _ _ h => h) HF.out rfl ?_ rfl rfl ?_ ?_
              rotate_left
              · intro w' hF; clear hF; go_simp; try rfl
              rotate_left
              · simp only [Act.put]; exact rfl
              refine Calm.takeL 23 (i := 8) (v := ?_) (a' := ?_) (l' := #[true, true, true, true, false, true, true, true, true, false, false, false, false, false, false, false, false, false, false, false, false, false, false]) (d := some 95) (by kernel_rfl) rfl (by kernel_rfl) (by kernel_rfl) (by kernel_rfl) (by kernel_rfl) (fun _ _ _ h => h) HF.out rfl ?_ rfl rfl ?_ ?_
              rotate_left
              · intro w' hF; have f10 := hF.2.1.out; have f20 := hF.2.2.1.out; have f40 := hF.2.2.2.2.1.out; have f50 := hF.2.2.2.2.2.1.out; have f70 := hF.2.2.2.2.2.2.2.1.cell0; have f71 := hF.2.2.2.2.2.2.2.1.cell1; have f72 := hF.2.2.2.2.2.2.2.1.cell2; have f73 := hF.2.2.2.2.2.2.2.1.cell3; have f90 := hF.2.2.2.2.2.2.2.2.2.1.cell0; have f91 := hF.2.2.2.2.2.2.2.2.2.1.cell1; have f92 := hF.2.2.2.2.2.2.2.2.2.1.cell2; have f93 := hF.2.2.2.2.2.2.2.2.2.1.cell3; clear hF; go_simp; try rfl
              rotate_left
              · simp only [Act.put]; exact rfl
              refine Calm.one (i := 4) (l' := #[true, true, true, true, true, true, true, true, true, false, false, false, false, false, false, false, false, false, false, false, false, false, false]) (by kernel_rfl) rfl rfl rfl fun K hK => ?_
              go_simp
              refine (itext_any _ z _ HF.out.2.2.2.1 (SzI.len (SZ.out) (show 5000 ≤ 1000000000 by decide))).mono ?_
              rintro e z1 ⟨rfl, hb⟩
              have HF' := hide (And.intro (HF.out.1.trans ((hb).mono HF.out.1.size)) (And.intro (HF.out.2.1.step (hb)) (And.intro (HF.out.2.2.1.step (hb)) (And.intro (HF.out.2.2.2.1.below (hb)) (And.intro (HF.out.2.2.2.2.1.step (hb)) (And.intro (HF.out.2.2.2.2.2.1.step (hb)) (And.intro (HF.out.2.2.2.2.2.2.1.below (hb)) (And.intro (HF.out.2.2.2.2.2.2.2.1.step (hb)) (And.intro (HF.out.2.2.2.2.2.2.2.2.1.below (hb)) (And.intro (HF.out.2.2.2.2.2.2.2.2.2.1.step (hb)) (HF.out.2.2.2.2.2.2.2.2.2.2.below (hb))))))))))))
              refine hK _ _ (fun _ => HF'.out) ?_
              clear hK K HF hb
              have HF := hide HF'.out
              clear HF'
              refine Calm.one (i := 9) (l' := #[true, true, true, true, true, true, true, true, true, true, false, false, false, false, false, false, false, false, false, false, false, false, false]) (by kernel_rfl) rfl rfl rfl fun K hK => ?_
              go_simp
              refine (rtext2_any _ z _ HF.out.2.2.2.2.2.2.1 (SzI.d6 (SZ.out) (show 2 * 5000 ≤ 1000000 by decide))).mono ?_
              rintro e z2 ⟨rfl, hb⟩
              have HF' := hide (And.intro (HF.out.1.trans ((hb).mono HF.out.1.size)) (And.intro (HF.out.2.1.step (hb)) (And.intro (HF.out.2.2.1.step (hb)) (And.intro (HF.out.2.2.2.1.below (hb)) (And.intro (HF.out.2.2.2.2.1.step (hb)) (And.intro (HF.out.2.2.2.2.2.1.step (hb)) (And.intro (HF.out.2.2.2.2.2.2.1.below (hb)) (And.intro (HF.out.2.2.2.2.2.2.2.1.step (hb)) (And.intro (HF.out.2.2.2.2.2.2.2.2.1.below (hb)) (And.intro (HF.out.2.2.2.2.2.2.2.2.2.1.step (hb)) (HF.out.2.2.2.2.2.2.2.2.2.2.below (hb))))))))))))
              refine hK _ _ (fun _ => HF'.out) ?_
              clear hK K HF hb
              have HF := hide HF'.out
              clear HF'
              refine Calm.takeL 23 (i := 10) (v := ?_) (a' := ?_) (l' := #[true, true, true, true, true, true, true, true, true, true, true, false, false, false, false, false, false, false, false, false, false, false, false]) (d := some 97) (by kernel_rfl) rfl (by kernel_rfl) (by kernel_rfl) (by kernel_rfl) (by kernel_rfl) (fun _ _ _ h => h) HF.out rfl ?_ rfl rfl ?_ ?_
              rotate_left
              · intro w' hF; clear hF; go_simp; try rfl
              rotate_left
              · simp only [Act.put]; exact rfl
              refine Calm.takeL 23 (i := 11) (v := ?_) (a' := ?_) (l' := #[true, true, true, true, true, true, true, true, true, true, true, true, false, false, false, false, false, false, false, false, false, false, false]) (d := some 98) (by kernel_rfl) rfl (by kernel_rfl) (by kernel_rfl) (by kernel_rfl) (by kernel_rfl) (fun _ _ _ h => h) HF.out rfl ?_ rfl rfl ?_ ?_
              rotate_left
              · intro w' hF; clear hF; go_simp; try rfl
              rotate_left
              · simp only [Act.put]; exact rfl
              refine Calm.takeL 23 (i := 12) (v := ?_) (a' := ?_) (l' := #[true, true, true, true, true, true, true, true, true, true, true, true, true, false, false, false, false, false, false, false, false, false, false]) (d := some 99) (by kernel_rfl) rfl (by kernel_rfl) (by kernel_rfl) (by kernel_rfl) (by kernel_rfl) (fun _ _ _ h => h) HF.out (by kernel_rfl) ?_ rfl rfl ?_ ?_
              rotate_left
              · intro w' hF; clear hF; go_simp; try rfl
              rotate_left
              · simp only [Act.put]; exact rfl
              refine Calm.takeL 23 (i := 13) (v := ?_) (a' := ?_) (l' := #[true, true, true, true, true, true, true, true, true, true, true, true, true, true, false, false, false, false, false, false, false, false, false]) (d := some 100) (by kernel_rfl) rfl (by kernel_rfl) (by kernel_rfl) (by kernel_rfl) (by kernel_rfl) (fun _ _ _ h => h) HF.out (by kernel_rfl) ?_ rfl rfl ?_ ?_
              rotate_left
              · intro w' hF; clear hF; go_simp; try rfl
              rotate_left
              · simp only [Act.put]; exact rfl
              refine Calm.takeL 23 (i := 14) (v := ?_) (a' := ?_) (l' := #[true, true, true, true, true, true, true, true, true, true, true, true, true, true, true, false, false, false, false, false, false, false, false]) (d := some 101) (by kernel_rfl) rfl (by kernel_rfl) (by kernel_rfl) (by kernel_rfl) (by kernel_rfl) (fun _ _ _ h => h) HF.out (by kernel_rfl) ?_ rfl rfl ?_ ?_
              rotate_left
              · intro w' hF; clear hF; go_simp; try rfl
              rotate_left
              · simp only [Act.put]; exact rfl
              refine Calm.takeL 23 (i := 15) (v := ?_) (a' := ?_) (l' := #[true, true, true, true, true, true, true, true, true, true, true, true, true, true, true, true, false, false, false, false, false, false, false]) (d := some 102) (by kernel_rfl) rfl (by kernel_rfl) (by kernel_rfl) (by kernel_rfl) (by kernel_rfl) (fun _ _ _ h => h) HF.out (by kernel_rfl) ?_ rfl rfl ?_ ?_
              rotate_left
              · intro w' hF; have f10 := hF.2.1.out; have f20 := hF.2.2.1.out; have f40 := hF.2.2.2.2.1.out; have f50 := hF.2.2.2.2.2.1.out; have f70 := hF.2.2.2.2.2.2.2.1.cell0; have f71 := hF.2.2.2.2.2.2.2.1.cell1; have f72 := hF.2.2.2.2.2.2.2.1.cell2; have f73 := hF.2.2.2.2.2.2.2.1.cell3; have f90 := hF.2.2.2.2.2.2.2.2.2.1.cell0; have f91 := hF.2.2.2.2.2.2.2.2.2.1.cell1; have f92 := hF.2.2.2.2.2.2.2.2.2.1.cell2; have f93 := hF.2.2.2.2.2.2.2.2.2.1.cell3; clear hF; go_simp; try rfl
              rotate_left
              · simp only [Act.put]; exact rfl
              refine Calm.takeL 23 (i := 16) (v := ?_) (a' := ?_) (l' := #[true, true, true, true, true, true, true, true, true, true, true, true, true, true, true, true, true, false, false, false, false, false, false]) (d := some 103) (by kernel_rfl) rfl (by kernel_rfl) (by kernel_rfl) (by kernel_rfl) (by kernel_rfl) (fun _ _ _ h => h) HF.out (by kernel_rfl) ?_ rfl rfl ?_ ?_
              rotate_left
              · intro w' hF; clear hF; go_simp; try rfl
              rotate_left
              · simp only [Act.put]; exact rfl
              refine Calm.takeL 23 (i := 17) (v := ?_) (a' := ?_) (l' := #[true, true, true, true, true, true, true, true, true, true, true, true, true, true, true, true, true, true, false, false, false, false, false]) (d := some 104) (by kernel_rfl) rfl (by kernel_rfl) (by kernel_rfl) (by kernel_rfl) (by kernel_rfl) (fun _ _ _ h => h) HF.out (by kernel_rfl) ?_ rfl rfl ?_ ?_
              rotate_left
              · intro w' hF; clear hF; go_simp; try rfl
              rotate_left
              · simp only [Act.put]; exact rfl
              refine Calm.takeL 23 (i := 18) (v := ?_) (a' := ?_) (l' := #[true, true, true, true, true, true, true, true, true, true, true, true, true, true, true, true, true, true, true, false, false, false, false]) (d := some 105) (by kernel_rfl) rfl (by kernel_rfl) (by kernel_rfl) (by kernel_rfl) (by kernel_rfl) (fun _ _ _ h => h) HF.out (by kernel_rfl) ?_ rfl rfl ?_ ?_
              rotate_left
              · intro w' hF; clear hF; go_simp; try rfl
              rotate_left
              · simp only [Act.put]; exact rfl
              refine Calm.takeL 23 (i := 19) (v := ?_) (a' := ?_) (l' := #[true, true, true, true, true, true, true, true, true, true, true, true, true, true, true, true, true, true, true, true, false, false, false]) (d := some 106) (by kernel_rfl) rfl (by kernel_rfl) (by kernel_rfl) (by kernel_rfl) (by kernel_rfl) (fun _ _ _ h => h) HF.out (by kernel_rfl) ?_ rfl rfl ?_ ?_
              rotate_left
              · intro w' hF; have f10 := hF.2.1.out; have f20 := hF.2.2.1.out; have f40 := hF.2.2.2.2.1.out; have f50 := hF.2.2.2.2.2.1.out; have f70 := hF.2.2.2.2.2.2.2.1.cell0; have f71 := hF.2.2.2.2.2.2.2.1.cell1; have f72 := hF.2.2.2.2.2.2.2.1.cell2; have f73 := hF.2.2.2.2.2.2.2.1.cell3; have f90 := hF.2.2.2.2.2.2.2.2.2.1.cell0; have f91 := hF.2.2.2.2.2.2.2.2.2.1.cell1; have f92 := hF.2.2.2.2.2.2.2.2.2.1.cell2; have f93 := hF.2.2.2.2.2.2.2.2.2.1.cell3; clear hF; go_simp; try rfl
              rotate_left
              · simp only [Act.put]; exact rfl
              refine Calm.one (i := 20) (l' := #[true, true, true, true, true, true, true, true, true, true, true, true, true, true, true, true, true, true, true, true, true, false, false]) (by kernel_rfl) rfl (by kernel_rfl) rfl fun K hK => ?_
              go_simp
              refine (is3_yes _ _ q _ HF.out.2.2.2.2.2.2.2.2.1 HF.out.2.2.2.2.2.2.2.2.2.2 (SQ.out.mono (by decide))).mono ?_
              rintro e z3 ⟨rfl, hb⟩
              have HF' := hide (And.intro (HF.out.1.trans ((hb).mono HF.out.1.size)) (And.intro (HF.out.2.1.step (hb)) (And.intro (HF.out.2.2.1.step (hb)) (And.intro (HF.out.2.2.2.1.below (hb)) (And.intro (HF.out.2.2.2.2.1.step (hb)) (And.intro (HF.out.2.2.2.2.2.1.step (hb)) (And.intro (HF.out.2.2.2.2.2.2.1.below (hb)) (And.intro (HF.out.2.2.2.2.2.2.2.1.step (hb)) (And.intro (HF.out.2.2.2.2.2.2.2.2.1.below (hb)) (And.intro (HF.out.2.2.2.2.2.2.2.2.2.1.step (hb)) (HF.out.2.2.2.2.2.2.2.2.2.2.below (hb))))))))))))
              refine hK _ _ (fun _ => HF'.out) ?_
              clear hK K HF hb
              have HF := hide HF'.out
              clear HF'
              refine Calm.takeL 23 (i := 21) (v := ?_) (a' := ?_) (l' := #[true, true, true, true, true, true, true, true, true, true, true, true, true, true, true, true, true, true, true, true, true, true, false]) (d := some 108) (by kernel_rfl) rfl (by kernel_rfl) (by kernel_rfl) (by kernel_rfl) (by kernel_rfl) (fun _ _ _ h => h) HF.out (by kernel_rfl) ?_ rfl rfl ?_ ?_
              rotate_left
              · intro w' hF; clear hF; go_simp; try rfl
              rotate_left
              · simp only [Act.put]; exact rfl
              refine Calm.takeL 23 (i := 22) (v := ?_) (a' := ?_) (l' := #[true, true, true, true, true, true, true, true, true, true, true, true, true, true, true, true, true, true, true, true, true, true, true]) (d := some 109) (by kernel_rfl) rfl (by kernel_rfl) (by kernel_rfl) (by kernel_rfl) (by kernel_rfl) (fun _ _ _ h => h) HF.out rfl ?_ rfl rfl ?_ ?_
              rotate_left
              · intro w' hF; clear hF; go_simp; try rfl
              rotate_left
              · simp only [Act.put]; exact rfl
              refine Calm.done (by kernel_rfl) ?_
              replace HB2 := hide HF.out.1
              clear HF
              try simp only [List.setIfInBounds_toArray, List.set_cons_succ, List.set_cons_zero]
              go_wp2
              go_roundw
              case rel => exact ⟨j + 1, by omega, by go_num, HB2.out⟩
              case measure => simp [intOf]; omega
            · have e : j = k := by omega
              subst e
              go_wp2
              go_ret
              exact ⟨rfl, HB.out.trans (HB2.out.mono HB.out.size)⟩
        · have z1 : ((k : Int) == 0) = false := by rw [beq_eq_false_iff_ne]; omega
          clear h0
          go_wp2_with fail
          refine wp_calm (fun w' => Below w.heap.size w w' ∧ Box w' g1 (.bool s1) (.slice m1 n1 c1) ∧ IntAt w' (.agg #[.bool s1, .slice m1 n1 c1]) Lm ∧ BoxR w' g2 (.bool s2) (.slice m2 n2 c2) ∧ RInt w' (.agg #[.bool s2, .slice m2 n2 c2]) Lm ∧ RatL w' (.slice aa k ca) qs ∧ RQL w' (.slice ab k cb) qs ∧ Ints w' (.slice la k ka) (comQ qs) ∧ RInts w' (.slice lb k kb) (comQ qs)) (fun _ => true) 30 #[false, false, false, false, false, false, false, false, false, false, false, false, false, false, false, false, false, false, false, false, false, false, false, false, false, false, false, false, false, false] (by kernel_rfl) rfl rfl ?_
          have HF := hide (And.intro (HB.out.drew) (And.intro (V1.out.drew) (And.intro (I1.out.drew) (And.intro (V2.out.drew) (And.intro (I2.out.drew) (And.intro (LQA.out.drew) (And.intro (LQB.out.drew) (And.intro (J1.out.drew) (J2.out.drew)))))))))
          generalize u6a.drew = u6ad at *
          refine Calm.takeL 30 (i := 0) (v := ?_) (a' := ?_) (l' := #[true, false, false, false, false, false, false, false, false, false, false, false, false, false, false, false, false, false, false, false, false, false, false, false, false, false, false, false, false, false]) (d := some 52) (by kernel_rfl) rfl (by kernel_rfl) (by kernel_rfl) (by kernel_rfl) (by kernel_rfl) (fun _ _ _ h => h) HF.out rfl ?_ rfl rfl ?_ ?_
          rotate_left
          · intro w' hF; clear hF; go_simp; try rfl
          rotate_left
          · simp only [Act.put]; exact rfl
          refine Calm.takeL 30 (i := 1) (v := ?_) (a' := ?_) (l' := #[true, true, false, false, false, false, false, false, false, false, false, false, false, false, false, false, false, false, false, false, false, false, false, false, false, false, false, false, false, false]) (d := some 53) (by kernel_rfl) rfl (by kernel_rfl) (by kernel_rfl) (by kernel_rfl) (by kernel_rfl) (fun _ _ _ h => h) HF.out rfl ?_ rfl rfl ?_ ?_
          rotate_left
          · intro w' hF; clear hF; go_simp; try rfl
          rotate_left
          · simp only [Act.put]; exact rfl
          refine Calm.takeL 30 (i := 2) (v := ?_) (a' := ?_) (l' := #[true, true, true, false, false, false, false, false, false, false, false, false, false, false, false, false, false, false, false, false, false, false, false, false, false, false, false, false, false, false]) (d := some 54) (by kernel_rfl) rfl (by kernel_rfl) (by kernel_rfl) (by kernel_rfl) (by kernel_rfl) (fun _ _ _ h => h) HF.out rfl ?_ rfl rfl ?_ ?_
          rotate_left
          · intro w' hF; clear hF; go_simp; try rfl
          rotate_left
          · simp only [Act.put]; exact rfl
          refine Calm.takeL 30 (i := 3) (v := ?_) (a' := ?_) (l' := #[true, true, true, true, false, false, false, false, false, false, false, false, false, false, false, false, false, false, false, false, false, false, false, false, false, false, false, false, false, false]) (d := some 55) (by kernel_rfl) rfl (by kernel_rfl) (by kernel_rfl) (by kernel_rfl) (by kernel_rfl) (fun _ _ _ h => h) HF.out rfl ?_ rfl rfl ?_ ?_
          rotate_left
          · intro w' hF; clear hF; go_simp; try rfl
          rotate_left
          · simp only [Act.put]; exact rfl
          refine Calm.takeL 30 (i := 4) (v := ?_) (a' := ?_) (l' := #[true, true, true, true, true, false, false, false, false, false, false, false, false, false, false, false, false, false, false, false, false, false, false, false, false, false, false, false, false, false]) (d := some 56) (by kernel_rfl) rfl (by kernel_rfl) (by kernel_rfl) (by kernel_rfl) (by kernel_rfl) (fun _ _ _ h => h) HF.out rfl ?_ rfl rfl ?_ ?_
          rotate_left
          · intro w' hF; clear hF; go_simp; try rfl
          rotate_left
          · simp only [Act.put]; exact rfl
          refine Calm.takeL 30 (i := 5) (v := ?_) (a' := ?_) (l' := #[true, true, true, true, true, true, false, false, false, false, false, false, false, false, false, false, false, false, false, false, false, false, false, false, false, false, false, false, false, false]) (d := some 57) (by kernel_rfl) rfl (by kernel_rfl) (by kernel_rfl) (by kernel_rfl) (by kernel_rfl) (fun _ _ _ h => h) HF.out rfl ?_ rfl rfl ?_ ?_
          rotate_left
          · intro w' hF; clear hF; go_simp; try rfl
          rotate_left
          · simp only [Act.put]; exact rfl
          refine Calm.takeL 30 (i := 6) (v := ?_) (a' := ?_) (l' := #[true, true, true, true, true, true, true, false, false, false, false, false, false, false, false, false, false, false, false, false, false, false, false, false, false, false, false, false, false, false]) (d := some 58) (by kernel_rfl) rfl (by kernel_rfl) (by kernel_rfl) (by kernel_rfl) (by kernel_rfl) (fun _ _ _ h => h) HF.out (by kernel_rfl) ?_ rfl rfl ?_ ?_
          rotate_left
          · intro w' hF; clear hF; go_simp; try rfl
          rotate_left
          · simp only [Act.put]; exact rfl
          refine Calm.takeL 30 (i := 7) (v := ?_) (a' := ?_) (l' := #[true, true, true, true, true, true, true, true, false, false, false, false, false, false, false, false, false, false, false, false, false, false, false, false, false, false, false, false, false, false]) (d := some 59) (by kernel_rfl) rfl (by kernel_rfl) (by kernel_rfl) (by kernel_rfl) (by kernel_rfl) (fun _ _ _ h => h) HF.out (by kernel_rfl) ?_ rfl rfl ?_ ?_
          rotate_left
          · intro w' hF; clear hF; go_simp; try rfl
          rotate_left
          · simp only [Act.put]; exact rfl
          refine Calm.takeL 30 (i := 8) (v := ?_) (a' := ?_) (l' := #[true, true, true, true, true, true, true, true, true, false, false, false, false, false, false, false, false, false, false, false, false, false, false, false, false, false, false, false, false, false]) (d := some 60) (by kernel_rfl) rfl (by kernel_rfl) (by kernel_rfl) (by kernel_rfl) (by kernel_rfl) (fun _ _ _ h => h) HF.out (by kernel_rfl) ?_ rfl rfl ?_ ?_
          rotate_left
          · intro w' hF; clear hF; go_simp; try rfl
          rotate_left
          · simp only [Act.put]; exact rfl
          refine Calm.takeL 30 (i := 9) (v := ?_) (a' := ?_) (l' := #[true, true, true, true, true, true, true, true, true, true, false, false, false, false, false, false, false, false, false, false, false, false, false, false, false, false, false, false, false, false]) (d := some 61) (by kernel_rfl) rfl (by kernel_rfl) (by kernel_rfl) (by kernel_rfl) (by kernel_rfl) (fun _ _ _ h => h) HF.out (by kernel_rfl) ?_ rfl rfl ?_ ?_
          rotate_left
          · intro w' hF; clear hF; go_simp; try rfl
          rotate_left
          · simp only [Act.put]; exact rfl
          refine Calm.skipM (i := 10) (a' := ?_) (l' := #[true, true, true, true, true, true, true, true, true, true, true, false, false, false, false, false, false, false, false, false, false, false, false, false, false, false, false, false, false, false]) (d := some 62) rfl (by kernel_rfl) (by kernel_rfl) (by kernel_rfl) (by kernel_rfl) (fun _ _ _ h => h) HF.out (by kernel_rfl) rfl rfl ?_ ?_
          rotate_left
          · simp only [Act.put]; exact rfl
          refine Calm.skipM (i := 11) (a' := ?_) (l' := #[true, true, true, true, true, true, true, true, true, true, true, true, false, false, false, false, false, false, false, false, false, false, false, false, false, false, false, false, false, false]) (d := some 63) rfl (by kernel_rfl) (by kernel_rfl) (by kernel_rfl) (by kernel_rfl) (fun _ _ _ h => h) HF.out (by kernel_rfl) rfl rfl ?_ ?_
          rotate_left
          · simp only [Act.put]; exact rfl
          refine Calm.skipM (i := 12) (a' := ?_) (l' := #[true, true, true, true, true, true, true, true, true, true, true, true, true, false, false, false, false, false, false, false, false, false, false, false, false, false, false, false, false, false]) (d := some 64) rfl (by kernel_rfl) (by kernel_rfl) (by kernel_rfl) (by kernel_rfl) (fun _ _ _ h => h) HF.out (by kernel_rfl) rfl rfl ?_ ?_
          rotate_left
          · simp only [Act.put]; exact rfl
          refine Calm.takeL 30 (i := 13) (v := ?_) (a' := ?_) (l' := #[true, true, true, true, true, true, true, true, true, true, true, true, true, true, false, false, false, false, false, false, false, false, false, false, false, false, false, false, false, false]) (d := some 65) (by kernel_rfl) rfl (by kernel_rfl) (by kernel_rfl) (by kernel_rfl) (by kernel_rfl) (fun _ _ _ h => h) HF.out (by kernel_rfl) ?_ rfl rfl ?_ ?_
          rotate_left
          · intro w' hF; clear hF; go_simp; try rfl
          rotate_left
          · simp only [Act.put]; exact rfl
          refine Calm.takeL 30 (i := 14) (v := ?_) (a' := ?_) (l' := #[true, true, true, true, true, true, true, true, true, true, true, true, true, true, true, false, false, false, false, false, false, false, false, false, false, false, false, false, false, false]) (d := some 66) (by kernel_rfl) rfl (by kernel_rfl) (by kernel_rfl) (by kernel_rfl) (by kernel_rfl) (fun _ _ _ h => h) HF.out rfl ?_ rfl rfl ?_ ?_
          rotate_left
          · intro w' hF; clear hF; go_simp; try rfl
          rotate_left
          · simp only [Act.put]; exact rfl
          refine Calm.takeL 30 (i := 15) (v := ?_) (a' := ?_) (l' := #[true, true, true, true, true, true, true, true, true, true, true, true, true, true, true, true, false, false, false, false, false, false, false, false, false, false, false, false, false, false]) (d := some 67) (by kernel_rfl) rfl (by kernel_rfl) (by kernel_rfl) (by kernel_rfl) (by kernel_rfl) (fun _ _ _ h => h) HF.out rfl ?_ rfl rfl ?_ ?_
          rotate_left
          · intro w' hF; clear hF; go_simp; try rfl
          rotate_left
          · simp only [Act.put]; exact rfl
          refine Calm.takeL 30 (i := 16) (v := ?_) (a' := ?_) (l' := #[true, true, true, true, true, true, true, true, true, true, true, true, true, true, true, true, true, false, false, false, false, false, false, false, false, false, false, false, false, false]) (d := some 68) (by kernel_rfl) rfl (by kernel_rfl) (by kernel_rfl) (by kernel_rfl) (by kernel_rfl) (fun _ _ _ h => h) HF.out (by kernel_rfl) ?_ rfl rfl ?_ ?_
          rotate_left
          · intro w' hF; have f10 := hF.2.1.cell0; have f11 := hF.2.1.cell1; have f30 := hF.2.2.2.1.cell0; have f31 := hF.2.2.2.1.cell1; clear hF; go_simp; try rfl
          rotate_left
          · simp only [Act.put]; exact rfl
          refine Calm.takeL 30 (i := 18) (v := ?_) (a' := ?_) (l' := #[true, true, true, true, true, true, true, true, true, true, true, true, true, true, true, true, true, false, true, false, false, false, false, false, false, false, false, false, false, false]) (d := some 70) (by kernel_rfl) rfl (by kernel_rfl) (by kernel_rfl) (by kernel_rfl) (by kernel_rfl) (fun _ _ _ h => h) HF.out (by kernel_rfl) ?_ rfl rfl ?_ ?_
          rotate_left
          · intro w' hF; have f10 := hF.2.1.cell0; have f11 := hF.2.1.cell1; have f30 := hF.2.2.2.1.cell0; have f31 := hF.2.2.2.1.cell1; clear hF; go_simp; try rfl
          rotate_left
          · simp only [Act.put]; exact rfl
          refine Calm.one (i := 17) (l' := #[true, true, true, true, true, true, true, true, true, true, true, true, true, true, true, true, true, true, true, false, false, false, false, false, false, false, false, false, false, false]) (by kernel_rfl) rfl (by kernel_rfl) rfl fun K hK => ?_
          go_simp
          refine (itext_any _ Lm _ HF.out.2.2.1 (SzI.len (ZL.out) (show 4000 ≤ 1000000000 by decide))).mono ?_
          rintro e y1 ⟨rfl, hb⟩
          have HF' := hide (And.intro (HF.out.1.trans ((hb).mono HF.out.1.size)) (And.intro (HF.out.2.1.step (hb)) (And.intro (HF.out.2.2.1.below (hb)) (And.intro (HF.out.2.2.2.1.step (hb)) (And.intro (HF.out.2.2.2.2.1.below (hb)) (And.intro (HF.out.2.2.2.2.2.1.below (hb)) (And.intro (HF.out.2.2.2.2.2.2.1.below (hb)) (And.intro (HF.out.2.2.2.2.2.2.2.1.below (hb)) (HF.out.2.2.2.2.2.2.2.2.below (hb))))))))))
          refine hK _ _ (fun _ => HF'.out) ?_
          clear hK K HF hb
          have HF := hide HF'.out
          clear HF'
          refine Calm.one (i := 19) (l' := #[true, true, true, true, true, true, true, true, true, true, true, true, true, true, true, true, true, true, true, true, false, false, false, false, false, false, false, false, false, false]) (by kernel_rfl) rfl (by kernel_rfl) rfl fun K hK => ?_
          go_simp
          refine (rtext2_any _ Lm _ HF.out.2.2.2.2.1 (SzI.d6 (ZL.out) (show 2 * 4000 ≤ 1000000 by decide))).mono ?_
          rintro e y2 ⟨rfl, hb⟩
          have HF' := hide (And.intro (HF.out.1.trans ((hb).mono HF.out.1.size)) (And.intro (HF.out.2.1.step (hb)) (And.intro (HF.out.2.2.1.below (hb)) (And.intro (HF.out.2.2.2.1.step (hb)) (And.intro (HF.out.2.2.2.2.1.below (hb)) (And.intro (HF.out.2.2.2.2.2.1.below (hb)) (And.intro (HF.out.2.2.2.2.2.2.1.below (hb)) (And.intro (HF.out.2.2.2.2.2.2.2.1.below (hb)) (HF.out.2.2.2.2.2.2.2.2.below (hb))))))))))
          refine hK _ _ (fun _ => HF'.out) ?_
          clear hK K HF hb
          have HF := hide HF'.out
          clear HF'
          refine Calm.takeL 30 (i := 20) (v := ?_) (a' := ?_) (l' := #[true, true, true, true, true, true, true, true, true, true, true, true, true, true, true, true, true, true, true, true, true, false, false, false, false, false, false, false, false, false]) (d := some 72) (by kernel_rfl) rfl (by kernel_rfl) (by kernel_rfl) (by kernel_rfl) (by kernel_rfl) (fun _ _ _ h => h) HF.out (by kernel_rfl) ?_ rfl rfl ?_ ?_
          rotate_left
          · intro w' hF; clear hF; go_simp; try rfl
          rotate_left
          · simp only [Act.put]; exact rfl
          refine Calm.takeL 30 (i := 21) (v := ?_) (a' := ?_) (l' := #[true, true, true, true, true, true, true, true, true, true, true, true, true, true, true, true, true, true, true, true, true, true, false, false, false, false, false, false, false, false]) (d := some 73) (by kernel_rfl) rfl (by kernel_rfl) (by kernel_rfl) (by kernel_rfl) (by kernel_rfl) (fun _ _ _ h => h) HF.out rfl ?_ rfl rfl ?_ ?_
          rotate_left
          · intro w' hF; clear hF; go_simp; try rfl
          rotate_left
          · simp only [Act.put]; exact rfl
          refine Calm.takeL 30 (i := 22) (v := ?_) (a' := ?_) (l' := #[true, true, true, true, true, true, true, true, true, true, true, true, true, true, true, true, true, true, true, true, true, true, true, false, false, false, false, false, false, false]) (d := some 74) (by kernel_rfl) rfl (by kernel_rfl) (by kernel_rfl) (by kernel_rfl) (by kernel_rfl) (fun _ _ _ h => h) HF.out rfl ?_ rfl rfl ?_ ?_
          rotate_left
          · intro w' hF; clear hF; go_simp; try rfl
          rotate_left
          · simp only [Act.put]; exact rfl
          refine Calm.takeL 30 (i := 23) (v := ?_) (a' := ?_) (l' := #[true, true, true, true, true, true, true, true, true, true, true, true, true, true, true, true, true, true, true, true, true, true, true, true, false, false, false, false, false, false]) (d := some 75) (by kernel_rfl) rfl (by kernel_rfl) (by kernel_rfl) (by kernel_rfl) (by kernel_rfl) (fun _ _ _ h => h) HF.out (by kernel_rfl) ?_ rfl rfl ?_ ?_
          rotate_left
          · intro w' hF; clear hF; go_simp; try rfl
          rotate_left
          · simp only [Act.put]; exact rfl
          refine Calm.takeL 30 (i := 25) (v := ?_) (a' := ?_) (l' := #[true, true, true, true, true, true, true, true, true, true, true, true, true, true, true, true, true, true, true, true, true, true, true, true, false, true, false, false, false, false]) (d := some 77) (by kernel_rfl) rfl (by kernel_rfl) (by kernel_rfl) (by kernel_rfl) (by kernel_rfl) (fun _ _ _ h => h) HF.out (by kernel_rfl) ?_ rfl rfl ?_ ?_
          rotate_left
          · intro w' hF; clear hF; go_simp; try rfl
          rotate_left
          · simp only [Act.put]; exact rfl
          refine Calm.one (i := 24) (l' := #[true, true, true, true, true, true, true, true, true, true, true, true, true, true, true, true, true, true, true, true, true, true, true, true, true, true, false, false, false, false]) (by kernel_rfl) rfl (by kernel_rfl) rfl fun K hK => ?_
          go_simp
          refine (rtsum_any _ qs _ HF.out.2.2.2.2.2.1 AS.out).mono ?_
          rintro e y3 ⟨v, rfl, n, hb⟩
          have HF' := hide (And.intro (HF.out.1.trans ((hb).mono HF.out.1.size)) (And.intro (HF.out.2.1.step (hb)) (And.intro (HF.out.2.2.1.below (hb)) (And.intro (HF.out.2.2.2.1.step (hb)) (And.intro (HF.out.2.2.2.2.1.below (hb)) (And.intro (HF.out.2.2.2.2.2.1.below (hb)) (And.intro (HF.out.2.2.2.2.2.2.1.below (hb)) (And.intro (HF.out.2.2.2.2.2.2.2.1.below (hb)) (HF.out.2.2.2.2.2.2.2.2.below (hb))))))))))
          have TA := hide (n)
          refine hK _ _ (fun _ => HF'.out) ?_
          clear hK K HF hb n
          have HF := hide HF'.out
          clear HF'
          refine Calm.one (i := 26) (l' := #[true, true, true, true, true, true, true, true, true, true, true, true, true, true, true, true, true, true, true, true, true, true, true, true, true, true, true, false, false, false]) (by kernel_rfl) rfl (by kernel_rfl) rfl fun K hK => ?_
          go_simp
          refine (r3sum_any _ qs _ HF.out.2.2.2.2.2.2.1 AS.out).mono ?_
          rintro e y4 ⟨v, rfl, n, hb⟩
          replace TA := hide (TA.out.below (hb))
          have HF' := hide (And.intro (HF.out.1.trans ((hb).mono HF.out.1.size)) (And.intro (HF.out.2.1.step (hb)) (And.intro (HF.out.2.2.1.below (hb)) (And.intro (HF.out.2.2.2.1.step (hb)) (And.intro (HF.out.2.2.2.2.1.below (hb)) (And.intro (HF.out.2.2.2.2.2.1.below (hb)) (And.intro (HF.out.2.2.2.2.2.2.1.below (hb)) (And.intro (HF.out.2.2.2.2.2.2.2.1.below (hb)) (HF.out.2.2.2.2.2.2.2.2.below (hb))))))))))
          have TB := hide (n)
          refine hK _ _ (fun _ => HF'.out) ?_
          clear hK K HF hb n
          have HF := hide HF'.out
          clear HF'
          refine Calm.one (i := 27) (l' := #[true, true, true, true, true, true, true, true, true, true, true, true, true, true, true, true, true, true, true, true, true, true, true, true, true, true, true, true, false, false]) (by kernel_rfl) rfl (by kernel_rfl) rfl fun K hK => ?_
          go_simp
          refine (is3_yes _ _ (sumQ qs) _ TA.out TB.out (ZS.out.mono (by decide))).mono ?_
          rintro e y5 ⟨rfl, hb⟩
          clear TA
          clear TB
          have HF' := hide (And.intro (HF.out.1.trans ((hb).mono HF.out.1.size)) (And.intro (HF.out.2.1.step (hb)) (And.intro (HF.out.2.2.1.below (hb)) (And.intro (HF.out.2.2.2.1.step (hb)) (And.intro (HF.out.2.2.2.2.1.below (hb)) (And.intro (HF.out.2.2.2.2.2.1.below (hb)) (And.intro (HF.out.2.2.2.2.2.2.1.below (hb)) (And.intro (HF.out.2.2.2.2.2.2.2.1.below (hb)) (HF.out.2.2.2.2.2.2.2.2.below (hb))))))))))
          refine hK _ _ (fun _ => HF'.out) ?_
          clear hK K HF hb
          have HF := hide HF'.out
          clear HF'
          refine Calm.takeL 30 (i := 28) (v := ?_) (a' := ?_) (l' := #[true, true, true, true, true, true, true, true, true, true, true, true, true, true, true, true, true, true, true, true, true, true, true, true, true, true, true, true, true, false]) (d := some 80) (by kernel_rfl) rfl (by kernel_rfl) (by kernel_rfl) (by kernel_rfl) (by kernel_rfl) (fun _ _ _ h => h) HF.out (by kernel_rfl) ?_ rfl rfl ?_ ?_
          rotate_left
          · intro w' hF; clear hF; go_simp; try rfl
          rotate_left
          · simp only [Act.put]; exact rfl
          refine Calm.takeL 30 (i := 29) (v := ?_) (a' := ?_) (l' := #[true, true, true, true, true, true, true, true, true, true, true, true, true, true, true, true, true, true, true, true, true, true, true, true, true, true, true, true, true, true]) (d := some 81) (by kernel_rfl) rfl (by kernel_rfl) (by kernel_rfl) (by kernel_rfl) (by kernel_rfl) (fun _ _ _ h => h) HF.out rfl ?_ rfl rfl ?_ ?_
          rotate_left
          · intro w' hF; clear hF; go_simp; try rfl
          rotate_left
          · simp only [Act.put]; exact rfl
          refine Calm.done (by kernel_rfl) ?_
          replace HB := hide HF.out.1
          replace LQA := hide HF.out.2.2.2.2.2.1
          replace LQB := hide HF.out.2.2.2.2.2.2.1
          replace J1 := hide HF.out.2.2.2.2.2.2.2.1
          replace J2 := hide HF.out.2.2.2.2.2.2.2.2
          clear HF V1 V2 I1 I2 z1
          try simp only [List.setIfInBounds_toArray, List.set_cons_succ, List.set_cons_zero]
          go_wp2
          go_loopw [14, 84] (fun _ iv wr => ∃ j : Nat, j ≤ k ∧ iv = .int .i64 j ∧ Below y5.heap.size y5 wr) (fun _ iv _ => k - (intOf iv).toNat)
          case atStart => exact ⟨0, Nat.zero_le _, rfl, Below.refl _ _⟩
          case round =>
            obtain ⟨j, hj, rfl, hb⟩ := hrel
            have HB2 := hide hb
            by_cases hlt : j < k
            · have HLC : Hid (j < (comQ qs).length) := hide (by rw [CL.out]; exact hlt)
              have HLQ : Hid (j < qs.length) := hide (by rw [QL.out]; exact hlt)
              have SZ := hide (comQ_sz qs AS.out j HLQ.out)
              have SQ := hide (AS.out.2 j HLQ.out)
              obtain ⟨b1, f1, rfl, s1, m1, n1, c1, k1a, k1b, i1⟩ := (J1.out.below hb).at HLC.out
              obtain ⟨b2, f2, rfl, s2, m2, n2, c2, k2a, k2b, i2⟩ := (J2.out.below hb).at HLC.out
              obtain ⟨b3, f3, rfl, s3, m3, n3, c3, t3, o3, p3, d3, c3c, i3⟩ := ListQ.at (LQA.out.below hb) HLQ.out
              obtain ⟨b4, f4, rfl, s4, m4, n4, c4, t4, o4, p4, d4, c4c, i4⟩ := ListQ.at (LQB.out.below hb) HLQ.out
              generalize (comQ qs).getD j 0 = z at i1 i2 SZ
              generalize qs.getD j 0 = q at i3 i4 SQ
              have K1A := hide k1a
              clear k1a
              have K1B := hide k1b
              clear k1b
              have I1 := hide i1
              clear i1
              have K2A := hide k2a
              clear k2a
              have K2B := hide k2b
              clear k2b
              have I2 := hide i2
              clear i2
              have C3C := hide c3c
              clear c3c
              have I3 := hide i3
              clear i3
              have C4C := hide c4c
              clear c4c
              have I4 := hide i4
              clear i4
              clear hb
              have hltI : (j : Int) < (k : Int) := by omega
              go_wp2_with fail
              refine wp_calm (fun w' => Below y5.heap.size y5 w' ∧ CellAt w' ⟨b1, f1 + j * 2, none⟩ (.bool s1) ∧ CellAt w' ⟨b1, f1 + j * 2 + 1, none⟩ (.slice m1 n1 c1) ∧ IntAt w' (.agg #[.bool s1, .slice m1 n1 c1]) z ∧ CellAt w' ⟨b2, f2 + j * 2, none⟩ (.bool s2) ∧ CellAt w' ⟨b2, f2 + j * 2 + 1, none⟩ (.slice m2 n2 c2) ∧ RInt w' (.agg #[.bool s2, .slice m2 n2 c2]) z ∧ Cell4 w' b3 (f3 + j * 4) (.bool s3) (.slice m3 n3 c3) (.bool t3) (.slice o3 p3 d3) ∧ RatAt w' (.agg #[.bool s3, .slice m3 n3 c3, .bool t3, .slice o3 p3 d3]) q ∧ Cell4 w' b4 (f4 + j * 4) (.bool s4) (.slice m4 n4 c4) (.bool t4) (.slice o4 p4 d4) ∧ RQ w' (.agg #[.bool s4, .slice m4 n4 c4, .bool t4, .slice o4 p4 d4]) q) (fun _ => true) 23 #[false, false, false, false, false, false, false, false, false, false, false, false, false, false, false, false, false, false, false, false, false, false, false] (by kernel_rfl) rfl rfl ?_
              have HF := hide (And.intro (HB2.out.drew) (And.intro (K1A.out.drew) (And.intro (K1B.out.drew) (And.intro (I1.out.drew) (And.intro (K2A.out.drew) (And.intro (K2B.out.drew) (And.intro (I2.out.drew) (And.intro (C3C.out.drew) (And.intro (I3.out.drew) (And.intro (C4C.out.drew) (I4.out.drew)))))))))))
              generalize wr.drew = wrd at *
              refine Calm.takeL 23 (i := 0) (v := ?_) (a' := ?_) (l' := #[true, false, false, false, false, false, false, false, false, false, false, false, false, false, false, false, false, false, false, false, false, false, false]) (d := some 87) (by kernel_rfl) rfl (by kernel_rfl) (by kernel_rfl) (by kernel_rfl) (by kernel_rfl) (fun _ _ _ h => h) HF.out rfl ?_ rfl rfl ?_ ?_
              rotate_left
              · intro w' hF; clear hF; go_simp; try rfl
              rotate_left
              · simp only [Act.put]; exact rfl
              refine Calm.takeL 23 (i := 1) (v := ?_) (a' := ?_) (l' := #[true, true, false, false, false, false, false, false, false, false, false, false, false, false, false, false, false, false, false, false, false, false, false]) (d := some 88) (by kernel_rfl) rfl (by kernel_rfl) (by kernel_rfl) (by kernel_rfl) (by kernel_rfl) (fun _ _ _ h => h) HF.out rfl ?_ rfl rfl ?_ ?_
              rotate_left
              · intro w' hF; clear hF; go_simp; try rfl
              rotate_left
              · simp only [Act.put]; exact rfl
              refine Calm.takeL 23 (i := 2) (v := ?_) (a' := ?_) (l' := #[true, true, true, false, false, false, false, false, false, false, false, false, false, false, false, false, false, false, false, false, false, false, false]) (d := some 89) (by kernel_rfl) rfl (by kernel_rfl) (by kernel_rfl) (by kernel_rfl) (by kernel_rfl) (fun _ _ _ h => h) HF.out rfl ?_ rfl rfl ?_ ?_
              rotate_left
              · intro w' hF; clear hF; go_simp; try rfl
              rotate_left
              · simp only [Act.put]; exact rfl
              refine Calm.takeL 23 (i := 3) (v := ?_) (a' := ?_) (l' := #[true, true, true, true, false, false, false, false, false, false, false, false, false, false, false, false, false, false, false, false, false, false, false]) (d := some 90) (by kernel_rfl) rfl (by kernel_rfl) (by kernel_rfl) (by kernel_rfl) (by kernel_rfl) (fun _ _ _ h => h) HF.out rfl ?_ rfl rfl ?_ ?_
              rotate_left
              · intro w' hF; have f10 := hF.2.1.out; have f20 := hF.2.2.1.out; have f40 := hF.2.2.2.2.1.out; have f50 := hF.2.2.2.2.2.1.out; have f70 := hF.2.2.2.2.2.2.2.1.cell0; have f71 := hF.2.2.2.2.2.2.2.1.cell1; have f72 := hF.2.2.2.2.2.2.2.1.cell2; have f73 := hF.2.2.2.2.2.2.2.1.cell3; have f90 := hF.2.2.2.2.2.2.2.2.2.1.cell0; have f91 := hF.2.2.2.2.2.2.2.2.2.1.cell1; have f92 := hF.2.2.2.2.2.2.2.2.2.1.cell2; have f93 := hF.2.2.2.2.2.2.2.2.2.1.cell3; clear hF; go_simp; try rfl
              rotate_left
              · simp only [Act.put]; exact rfl
              refine Calm.takeL 23 (i := 5) (v := ?_) (a' := ?_) (l' := #[true, true, true, true, false, true, false, false, false, false, false, false, false, false, false, false, false, false, false, false, false, false, false]) (d := some 92) (by kernel_rfl) rfl (by kernel_rfl) (by kernel_rfl) (by kernel_rfl) (by kernel_rfl) (fun _ _ _ h => h) HF.out rfl ?_ rfl rfl ?_ ?_
              rotate_left
              · intro w' hF; clear hF; go_simp; try rfl
              rotate_left
              · simp only [Act.put]; exact rfl
              refine Calm.takeL 23 (i := 6) (v := ?_) (a' := ?_) (l' := #[true, true, true, true, false, true, true, false, false, false, false, false, false, false, false, false, false, false, false, false, false, false, false]) (d := some 93) (by kernel_rfl) rfl (by kernel_rfl) (by kernel_rfl) (by kernel_rfl) (by kernel_rfl) (fun _ _ _ h => h) HF.out rfl ?_ rfl rfl ?_ ?_
              rotate_left
              · intro w' hF; clear hF; go_simp; try rfl
              rotate_left
              · simp only [Act.put]; exact rfl
              refine Calm.takeL 23 (i := 7) (v := ?_) (a' := ?_) (l' := #[true, true, true, true, false, true, true, true, false, false, false, false, false, false, false, false, false, false, false, false, false, false, false]) (d := some 94) (by kernel_rfl) rfl (by kernel_rfl) (by kernel_rfl) (by kernel_rfl) (by kernel_rfl) (fun _ _ _ h => h) HF.out rfl ?_ rfl rfl ?_ ?_
              rotate_left
              · intro w' hF; clear hF; go_simp; try rfl
              rotate_left
              · simp only [Act.put]; exact rfl
              refine Calm.takeL 23 (i := 8) (v := ?_) (a' := ?_) (l' := #[true, true, true, true, false, true, true, true, true, false, false, false, false, false, false, false, false, false, false, false, false, false, false]) (d := some 95) (by kernel_rfl) rfl (by kernel_rfl) (by kernel_rfl) (by kernel_rfl) (by kernel_rfl) (fun _ _ _ h => h) HF.out rfl ?_ rfl rfl ?_ ?_
              rotate_left
              · intro w' hF; have f10 := hF.2.1.out; have f20 := hF.2.2.1.out; have f40 := hF.2.2.2.2.1.out; have f50 := hF.2.2.2.2.2.1.out; have f70 := hF.2.2.2.2.2.2.2.1.cell0; have f71 := hF.2.2.2.2.2.2.2.1.cell1; have f72 := hF.2.2.2.2.2.2.2.1.cell2; have f73 := hF.2.2.2.2.2.2.2.1.cell3; have f90 := hF.2.2.2.2.2.2.2.2.2.1.cell0; have f91 := hF.2.2.2.2.2.2.2.2.2.1.cell1; have f92 := hF.2.2.2.2.2.2.2.2.2.1.cell2; have f93 := hF.2.2.2.2.2.2.2.2.2.1.cell3; clear hF; go_simp; try rfl
              rotate_left
              · simp only [Act.put]; exact rfl
              refine Calm.one (i := 4) (l' := #[true, true, true, true, true, true, true, true, true, false, false, false, false, false, false, false, false, false, false, false, false, false, false]) (by kernel_rfl) rfl rfl rfl fun K hK => ?_
              go_simp
              refine (itext_any _ z _ HF.out.2.2.2.1 (SzI.len (SZ.out) (show 5000 ≤ 1000000000 by decide))).mono ?_
              rintro e z1 ⟨rfl, hb⟩
              have HF' := hide (And.intro (HF.out.1.trans ((hb).mono HF.out.1.size)) (And.intro (HF.out.2.1.step (hb)) (And.intro (HF.out.2.2.1.step (hb)) (And.intro (HF.out.2.2.2.1.below (hb)) (And.intro (HF.out.2.2.2.2.1.step (hb)) (And.intro (HF.out.2.2.2.2.2.1.step (hb)) (And.intro (HF.out.2.2.2.2.2.2.1.below (hb)) (And.intro (HF.out.2.2.2.2.2.2.2.1.step (hb)) (And.intro (HF.out.2.2.2.2.2.2.2.2.1.below (hb)) (And.intro (HF.out.2.2.2.2.2.2.2.2.2.1.step (hb)) (HF.out.2.2.2.2.2.2.2.2.2.2.below (hb))))))))))))
              refine hK _ _ (fun _ => HF'.out) ?_
              clear hK K HF hb
              have HF := hide HF'.out
              clear HF'
              refine Calm.one (i := 9) (l' := #[true, true, true, true, true, true, true, true, true, true, false, false, false, false, false, false, false, false, false, false, false, false, false]) (by kernel_rfl) rfl rfl rfl fun K hK => ?_
              go_simp
              refine (rtext2_any _ z _ HF.out.2.2.2.2.2.2.1 (SzI.d6 (SZ.out) (show 2 * 5000 ≤ 1000000 by decide))).mono ?_
              rintro e z2 ⟨rfl, hb⟩
              have HF' := hide (And.intro (HF.out.1.trans ((hb).mono HF.out.1.size)) (And.intro (HF.out.2.1.step (hb)) (And.intro (HF.out.2.2.1.step (hb)) (And.intro (HF.out.2.2.2.1.below (hb)) (And.intro (HF.out.2.2.2.2.1.step (hb)) (And.intro (HF.out.2.2.2.2.2.1.step (hb)) (And.intro (HF.out.2.2.2.2.2.2.1.below (hb)) (And.intro (HF.out.2.2.2.2.2.2.2.1.step (hb)) (And.intro (HF.out.2.2.2.2.2.2.2.2.1.below (hb)) (And.intro (HF.out.2.2.2.2.2.2.2.2.2.1.step (hb)) (HF.out.2.2.2.2.2.2.2.2.2.2.below (hb))))))))))))
              refine hK _ _ (fun _ => HF'.out) ?_
              clear hK K HF hb
              have HF := hide HF'.out
              clear HF'
              refine Calm.takeL 23 (i := 10) (v := ?_) (a' := ?_) (l' := #[true, true, true, true, true, true, true, true, true, true, true, false, false, false, false, false, false, false, false, false, false, false, false]) (d := some 97) (by kernel_rfl) rfl (by kernel_rfl) (by kernel_rfl) (by kernel_rfl) (by kernel_rfl) (fun _ _ _ h => h) HF.out rfl ?_ rfl rfl ?_ ?_
              rotate_left
              · intro w' hF; clear hF; go_simp; try rfl
              rotate_left
              · simp only [Act.put]; exact rfl
              refine Calm.takeL 23 (i := 11) (v := ?_) (a' := ?_) (l' := #[true, true, true, true, true, true, true, true, true, true, true, true, false, false, false, false, false, false, false, false, false, false, false]) (d := some 98) (by kernel_rfl) rfl (by kernel_rfl) (by kernel_rfl) (by kernel_rfl) (by kernel_rfl) (fun _ _ _ h => h) HF.out rfl ?_ rfl rfl ?_ ?_
              rotate_left
              · intro w' hF; clear hF; go_simp; try rfl
              rotate_left
              · simp only [Act.put]; exact rfl
              refine Calm.takeL 23 (i := 12) (v := ?_) (a' := ?_) (l' := #[true, true, true, true, true, true, true, true, true, true, true, true, true, false, false, false, false, false, false, false, false, false, false]) (d := some 99) (by kernel_rfl) rfl (by kernel_rfl) (by kernel_rfl) (by kernel_rfl) (by kernel_rfl) (fun _ _ _ h => h) HF.out (by kernel_rfl) ?_ rfl rfl ?_ ?_
              rotate_left
              · intro w' hF; clear hF; go_simp; try rfl
              rotate_left
              · simp only [Act.put]; exact rfl
              refine Calm.takeL 23 (i := 13) (v := ?_) (a' := ?_) (l' := #[true, true, true, true, true, true, true, true, true, true, true, true, true, true, false, false, false, false, false, false, false, false, false]) (d := some 100) (by kernel_rfl) rfl (by kernel_rfl) (by kernel_rfl) (by kernel_rfl) (by kernel_rfl) (fun _ _ _ h => h) HF.out (by kernel_rfl) ?_ rfl rfl ?_ ?_
              rotate_left
              · intro w' hF; clear hF; go_simp; try rfl
              rotate_left
              · simp only [Act.put]; exact rfl
              refine Calm.takeL 23 (i := 14) (v := ?_) (a' := ?_) (l' := #[true, true, true, true, true, true, true, true, true, true, true, true, true, true, true, false, false, false, false, false, false, false, false]) (d := some 101) (by kernel_rfl) rfl (by kernel_rfl) (by kernel_rfl) (by kernel_rfl) (by kernel_rfl) (fun _ _ _ h => h) HF.out (by kernel_rfl) ?_ rfl rfl ?_ ?_
              rotate_left
              · intro w' hF; clear hF; go_simp; try rfl
              rotate_left
              · simp only [Act.put]; exact rfl
              refine Calm.takeL 23 (i := 15) (v := ?_) (a' := ?_) (l' := #[true, true, true, true, true, true, true, true, true, true, true, true, true, true, true, true, false, false, false, false, false, false, false]) (d := some 102) (by kernel_rfl) rfl (by kernel_rfl) (by kernel_rfl) (by kernel_rfl) (by kernel_rfl) (fun _ _ _ h => h) HF.out (by kernel_rfl) ?_ rfl rfl ?_ ?_
              rotate_left
              · intro w' hF; have f10 := hF.2.1.out; have f20 := hF.2.2.1.out; have f40 := hF.2.2.2.2.1.out; have f50 := hF.2.2.2.2.2.1.out; have f70 := hF.2.2.2.2.2.2.2.1.cell0; have f71 := hF.2.2.2.2.2.2.2.1.cell1; have f72 := hF.2.2.2.2.2.2.2.1.cell2; have f73 := hF.2.2.2.2.2.2.2.1.cell3; have f90 := hF.2.2.2.2.2.2.2.2.2.1.cell0; have f91 := hF.2.2.2.2.2.2.2.2.2.1.cell1; have f92 := hF.2.2.2.2.2.2.2.2.2.1.cell2; have f93 := hF.2.2.2.2.2.2.2.2.2.1.cell3; clear hF; go_simp; try rfl
              rotate_left
              · simp only [Act.put]; exact rfl
              refine Calm.takeL 23 (i := 16) (v := ?_) (a' := ?_) (l' := #[true, true, true, true, true, true, true, true, true, true, true, true, true, true, true, true, true, false, false, false, false, false, false]) (d := some 103) (by kernel_rfl) rfl (by kernel_rfl) (by kernel_rfl) (by kernel_rfl) (by kernel_rfl) (fun _ _ _ h => h) HF.out (by kernel_rfl) ?_ rfl rfl ?_ ?_
              rotate_left
              · intro w' hF; clear hF; go_simp; try rfl
              rotate_left
              · simp only [Act.put]; exact rfl
              refine Calm.takeL 23 (i := 17) (v := ?_) (a' := ?_) (l' := #[true, true, true, true, true, true, true, true, true, true, true, true, true, true, true, true, true, true, false, false, false, false, false]) (d := some 104) (by kernel_rfl) rfl (by kernel_rfl) (by kernel_rfl) (by kernel_rfl) (by kernel_rfl) (fun _ _ _ h => h) HF.out (by kernel_rfl) ?_ rfl rfl ?_ ?_
              rotate_left
              · intro w' hF; clear hF; go_simp; try rfl
              rotate_left
              · simp only [Act.put]; exact rfl
              refine Calm.takeL 23 (i := 18) (v := ?_) (a' := ?_) (l' := #[true, true, true, true, true, true, true, true, true, true, true, true, true, true, true, true, true, true, true, false, false, false, false]) (d := some 105) (by kernel_rfl) rfl (by kernel_rfl) (by kernel_rfl) (by kernel_rfl) (by kernel_rfl) (fun _ _ _ h => h) HF.out (by kernel_rfl) ?_ rfl rfl ?_ ?_
              rotate_left
              · intro w' hF; clear hF; go_simp; try rfl
              rotate_left
              · simp only [Act.put]; exact rfl
              refine Calm.takeL 23 (i := 19) (v := ?_) (a' := ?_) (l' := #[true, true, true, true, true, true, true, true, true, true, true, true, true, true, true, true, true, true, true, true, false, false, false]) (d := some 106) (by kernel_rfl) rfl (by kernel_rfl) (by kernel_rfl) (by kernel_rfl) (by kernel_rfl) (fun _ _ _ h => h) HF.out (by kernel_rfl) ?_ rfl rfl ?_ ?_
              rotate_left
              · intro w' hF; have f10 := hF.2.1.out; have f20 := hF.2.2.1.out; have f40 := hF.2.2.2.2.1.out; have f50 := hF.2.2.2.2.2.1.out; have f70 := hF.2.2.2.2.2.2.2.1.cell0; have f71 := hF.2.2.2.2.2.2.2.1.cell1; have f72 := hF.2.2.2.2.2.2.2.1.cell2; have f73 := hF.2.2.2.2.2.2.2.1.cell3; have f90 := hF.2.2.2.2.2.2.2.2.2.1.cell0; have f91 := hF.2.2.2.2.2.2.2.2.2.1.cell1; have f92 := hF.2.2.2.2.2.2.2.2.2.1.cell2; have f93 := hF.2.2.2.2.2.2.2.2.2.1.cell3; clear hF; go_simp; try rfl
              rotate_left
              · simp only [Act.put]; exact rfl
              refine Calm.one (i := 20) (l' := #[true, true, true, true, true, true, true, true, true, true, true, true, true, true, true, true, true, true, true, true, true, false, false]) (by kernel_rfl) rfl (by kernel_rfl) rfl fun K hK => ?_
              go_simp
              refine (is3_yes _ _ q _ HF.out.2.2.2.2.2.2.2.2.1 HF.out.2.2.2.2.2.2.2.2.2.2 (SQ.out.mono (by decide))).mono ?_
              rintro e z3 ⟨rfl, hb⟩
              have HF' := hide (And.intro (HF.out.1.trans ((hb).mono HF.out.1.size)) (And.intro (HF.out.2.1.step (hb)) (And.intro (HF.out.2.2.1.step (hb)) (And.intro (HF.out.2.2.2.1.below (hb)) (And.intro (HF.out.2.2.2.2.1.step (hb)) (And.intro (HF.out.2.2.2.2.2.1.step (hb)) (And.intro (HF.out.2.2.2.2.2.2.1.below (hb)) (And.intro (HF.out.2.2.2.2.2.2.2.1.step (hb)) (And.intro (HF.out.2.2.2.2.2.2.2.2.1.below (hb)) (And.intro (HF.out.2.2.2.2.2.2.2.2.2.1.step (hb)) (HF.out.2.2.2.2.2.2.2.2.2.2.below (hb))))))))))))
              refine hK _ _ (fun _ => HF'.out) ?_
              clear hK K HF hb
              have HF := hide HF'.out
              clear HF'
              refine Calm.takeL 23 (i := 21) (v := ?_) (a' := ?_) (l' := #[true, true, true, true, true, true, true, true, true, true, true, true, true, true, true, true, true, true, true, true, true, true, false]) (d := some 108) (by kernel_rfl) rfl (by kernel_rfl) (by kernel_rfl) (by kernel_rfl) (by kernel_rfl) (fun _ _ _ h => h) HF.out (by kernel_rfl) ?_ rfl rfl ?_ ?_
              rotate_left
              · intro w' hF; clear hF; go_simp; try rfl
              rotate_left
              · simp only [Act.put]; exact rfl
              refine Calm.takeL 23 (i := 22) (v := ?_) (a' := ?_) (l' := #[true, true, true, true, true, true, true, true, true, true, true, true, true, true, true, true, true, true, true, true, true, true, true]) (d := some 109) (by kernel_rfl) rfl (by kernel_rfl) (by kernel_rfl) (by kernel_rfl) (by kernel_rfl) (fun _ _ _ h => h) HF.out rfl ?_ rfl rfl ?_ ?_
              rotate_left
              · intro w' hF; clear hF; go_simp; try rfl
              rotate_left
              · simp only [Act.put]; exact rfl
              refine Calm.done (by kernel_rfl) ?_
              replace HB2 := hide HF.out.1
              clear HF
              try simp only [List.setIfInBounds_toArray, List.set_cons_succ, List.set_cons_zero]
              go_wp2
              go_roundw
              case rel => exact ⟨j + 1, by omega, by go_num, HB2.out⟩
              case measure => simp [intOf]; omega
            · have e : j = k := by omega
              subst e
              go_wp2
              go_ret
              exact ⟨rfl, HB.out.trans (HB2.out.mono HB.out.size)⟩
end Go.Proofs.Ytgkibmigbjjnnaa
