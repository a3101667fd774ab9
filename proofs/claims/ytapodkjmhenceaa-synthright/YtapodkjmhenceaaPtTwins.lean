/- point.Twins: the first two points that are one, found by a map from norms to places. -/
import Derived.Test.YtapodkjmhenceaaPtList
import Derived.Test.YtapodkjmhenceaaPtDet
import Derived.OwnWalk
import Derived.BigQuiet
import Derived.WalkSmall
import Derived.Deep.QuietTactic
import Derived.Deep.RegionWith
import Derived.Deep.Cut
import Derived.RegionTactic
namespace Go.Proofs.Ytapodkjmhenceaa
open Go.RowKit

abbrev ptKL (a b : Int) (kl : Lit) : Prop := keyOf Try.prog 61 (.agg #[.int .i64 a, .int .i64 b]) = some kl
theorem Try.ptInj {a b c d : Int} {kl : Lit} (h : ptKL a b kl) (h' : ptKL c d kl) : a = c ∧ b = d := by
  have := Try.ptKeyed.inj h h'
  simpa using this

/-- the map's state behind j points -/
structure TwMap (ps : List (Int × Int)) (j : Nat) (D : DataW Unit) : Prop where
  apart : ∀ i i', i < i' → i' < j → twB ps i i' = false
  put : ∀ i, i < j → inB (pA ps i) (pB ps i) = true → ∀ kl, ptKL (nA (pA ps i) (pB ps i)) (nB (pA ps i) (pB ps i)) kl → Maps.has D kl = true ∧ D.atKey kl (.lit (.int .i64 0)) = .lit (.int .i64 i)
  only : ∀ a b kl, ptKL a b kl → Maps.has D kl = true → ∃ i, i < j ∧ inB (pA ps i) (pB ps i) = true ∧ nA (pA ps i) (pB ps i) = a ∧ nB (pA ps i) (pB ps i) = b

theorem TwMap.start (ps : List (Int × Int)) : TwMap ps 0 (.map []) := ⟨fun _ _ _ h => by omega, fun _ h => by omega, fun _ _ _ _ h => by simp [Maps.has] at h⟩
theorem tw_norm {ps : List (Int × Int)} {i j : Nat} (h : twB ps i j = true) : nA (pA ps i) (pB ps i) = nA (pA ps j) (pB ps j) ∧ nB (pA ps i) (pB ps i) = nB (pA ps j) (pB ps j) := by
  unfold twB at h
  simp only [Bool.and_eq_true] at h
  obtain ⟨⟨h1, h2⟩, h3⟩ := h
  obtain ⟨⟨a1, a2⟩, a3, a4⟩ := in_yes h1
  obtain ⟨⟨b1, b2⟩, b3, b4⟩ := in_yes h2
  have := (one_norm a1 a2 a3 a4 b1 b2 b3 b4).1 h3
  exact ⟨this.1.symm, this.2.symm⟩
theorem tw_of_norm {ps : List (Int × Int)} {i j : Nat} (h1 : inB (pA ps i) (pB ps i) = true) (h2 : inB (pA ps j) (pB ps j) = true) (e1 : nA (pA ps i) (pB ps i) = nA (pA ps j) (pB ps j)) (e2 : nB (pA ps i) (pB ps i) = nB (pA ps j) (pB ps j)) : twB ps i j = true := by
  unfold twB
  rw [h1, h2]
  obtain ⟨⟨a1, a2⟩, a3, a4⟩ := in_yes h1
  obtain ⟨⟨b1, b2⟩, b3, b4⟩ := in_yes h2
  exact (one_norm a1 a2 a3 a4 b1 b2 b3 b4).2 ⟨e1.symm, e2.symm⟩
theorem twB_in {ps : List (Int × Int)} {i j : Nat} (h : twB ps i j = true) : inB (pA ps i) (pB ps i) = true ∧ inB (pA ps j) (pB ps j) = true := by
  unfold twB at h
  simp only [Bool.and_eq_true] at h
  exact h.1
theorem TwMap.pass {ps : List (Int × Int)} {j : Nat} {D : DataW Unit} (h : TwMap ps j D) (hn : inB (pA ps j) (pB ps j) = false) : TwMap ps (j + 1) D := by
  refine ⟨fun i i' hi hi' => ?_, fun i hi hin => ?_, fun a b kl hk hh => ?_⟩
  · rcases Nat.lt_succ_iff_lt_or_eq.1 hi' with l | rfl
    · exact h.apart i i' hi l
    · unfold twB; rw [hn]; simp
  · rcases Nat.lt_succ_iff_lt_or_eq.1 hi with l | rfl
    · exact h.put i l hin
    · rw [hn] at hin; cases hin
  · obtain ⟨i, hi, k⟩ := h.only a b kl hk hh
    exact ⟨i, by omega, k⟩
set_option maxRecDepth 100000 in
theorem TwMap.new {ps : List (Int × Int)} {j : Nat} {D : DataW Unit} (h : TwMap ps j D) (hin : inB (pA ps j) (pB ps j) = true) {kl : Lit} (hk : ptKL (nA (pA ps j) (pB ps j)) (nB (pA ps j) (pB ps j)) kl) (hm : Maps.IsMap D) (hh : Maps.has D kl = false) :
    TwMap ps (j + 1) (D.put kl (.lit (.int .i64 j))) := by
  have hkl := Try.ptKeyed.key hk
  refine ⟨fun i i' hi hi' => ?_, fun i hi hin' kl' hk' => ?_, fun a b kl' hk' hh' => ?_⟩
  · rcases Nat.lt_succ_iff_lt_or_eq.1 hi' with l | rfl
    · exact h.apart i i' hi l
    · cases ht : twB ps i i' with
      | false => rfl
      | true =>
        obtain ⟨e1, e2⟩ := tw_norm ht
        have := (h.put i hi (twB_in ht).1 kl (by rw [e1, e2]; exact hk)).1
        rw [hh] at this; cases this
  · rcases Nat.lt_succ_iff_lt_or_eq.1 hi with l | rfl
    · have k := h.put i l hin' kl' hk'
      have hne : kl' ≠ kl := by
        intro e
        rw [e, hh] at k
        exact absurd k.1 (by simp)
      rw [Maps.has_put_other hne, Maps.atKey_put_other hne]
      exact k
    · have : kl' = kl := by unfold ptKL at hk hk'; rw [hk] at hk'; injection hk' with e; exact e.symm
      subst this
      exact ⟨Maps.has_put_same hm hkl _, Maps.atKey_put_same hm hkl _ _⟩
  · by_cases e : kl' = kl
    · subst e
      obtain ⟨e1, e2⟩ := Try.ptInj hk hk'
      exact ⟨j, by omega, hin, e1, e2⟩
    · rw [Maps.has_put_other e] at hh'
      obtain ⟨i, hi, k⟩ := h.only a b kl' hk' hh'
      exact ⟨i, by omega, k⟩
theorem TwMap.found {ps : List (Int × Int)} {j : Nat} {D : DataW Unit} (h : TwMap ps j D) (hj : j < ps.length) (hin : inB (pA ps j) (pB ps j) = true) {kl : Lit} (hk : ptKL (nA (pA ps j) (pB ps j)) (nB (pA ps j) (pB ps j)) kl) (hh : Maps.has D kl = true) {c : Int} (hc : D.atKey kl (.lit (.int .i64 0)) = .lit (.int .i64 c)) :
    ∃ i : Nat, c = i ∧ TwAns ps i j true := by
  obtain ⟨i, hi, hi2, e1, e2⟩ := h.only _ _ kl hk hh
  have k := (h.put i hi hi2 kl (by rw [e1, e2]; exact hk)).2
  rw [hc] at k
  refine ⟨i, by simpa using k, .inl ⟨rfl, hi, hj, tw_of_norm hi2 hin e1 e2, h.apart, fun i' l => ?_⟩⟩
  cases ht : twB ps i' j with
  | false => rfl
  | true =>
    obtain ⟨f1, f2⟩ := tw_norm ht
    have := h.apart i' i l hi
    rw [tw_of_norm (twB_in ht).1 hi2 (f1.trans e1.symm) (f2.trans e2.symm)] at this
    cases this
theorem TwMap.none {ps : List (Int × Int)} {D : DataW Unit} (h : TwMap ps ps.length D) : TwAns ps 0 0 false := .inr ⟨rfl, rfl, rfl, h.apart⟩

theorem ownsMap_below {w w' : World} {k : TypeId} {R : Value → Option (DataW Unit × List MemPlace)} {b n : Nat} {D : DataW Unit} (h : w.ownsMap Try.prog k R b n D) (hb : Below w.heap.size w w') : w'.ownsMap Try.prog k R b n D := by
  have lt := h.lt
  obtain ⟨es, clock, hh, F, hs, hD⟩ := h
  exact ⟨es, clock, (hb.block b lt).trans hh, F, hs, hD⟩
theorem Try.zeroInt (w : World) : (zeroValue 3).run Try.prog w = .ok (.int .i64 0) w := by kernel_rfl

set_option maxRecDepth 100000 in
set_option maxHeartbeats 4000000 in
theorem twins_any (v : Value) (ps : List (Int × Int)) (w : World) (h : PtsAt w v ps) (hl : ps.length ≤ 300) :
    Calls Try.prog 87 #[v] w fun e w' => ∃ (i j : Nat) (ok : Bool), e = .returned (.tuple #[.int .i64 i, .int .i64 j, .bool ok]) ∧ TwAns ps i j ok ∧ Below w.heap.size w w' := by
  have hmm := @run_makeMap Try.prog
  rcases h.cases with ⟨rfl, a, cap, rfl, hcap⟩ | ⟨hpos, b, off, cap, rfl, hcap, hmx, hc⟩
  · clear h
    go_enter Try.func87, Try.ntmps87
    go_wp2
    go_step3
    go_wp2
    go_step3
    go_wp2
    refine wp_loop_rounds 1 ?_
    rw [rounds_succ]
    go_wp2
    try rw [Exit.noGoto_ret]
    go_ret3
    exact ⟨0, 0, false, rfl, .inr ⟨rfl, rfl, rfl, fun i' j' h1 h2 => by simp at h2⟩, below_alloc _ _⟩
  · have HL := hide h
    have HC := hide hc
    clear h hc
    unfold maxLen at hmx
    go_enter Try.func87, Try.ntmps87
    go_wp2
    go_step3
    go_wp2
    go_step3
    go_wp2
    go_loopw [15, 6, 7, 8, 9, 10, 11] (fun iv _ _ _ _ _ _ wr => ∃ (k : Nat) (D : DataW Unit), iv = .int .i64 k ∧ k ≤ ps.length ∧ TwMap ps k D ∧ wr.ownsMap Try.prog 61 (plainElem Try.prog 3) w.heap.size k D ∧ Below w.heap.size w wr) (fun iv _ _ _ _ _ _ _ => ps.length - (intOf iv).toNat)
    case atStart => exact ⟨0, .map [], rfl, Nat.zero_le _, TwMap.start ps, World.ownsMap_made _ _ _ _, below_alloc _ _⟩
    case round =>
      obtain ⟨k, D, rfl, hk, hT, hown, hbel⟩ := hrel
      have HT := hide hT
      have HO := hide hown
      have HB := hide hbel
      clear hT hown hbel
      by_cases hlt : k < ps.length
      · have HP := hide ((HC.out k hlt).step HB.out)
        have c0 := HP.out.cell0
        have c1 := HP.out.cell1
        obtain ⟨x, hx⟩ : ∃ x, x = pA ps k := ⟨_, rfl⟩
        obtain ⟨y, hy⟩ : ∃ y, y = pB ps k := ⟨_, rfl⟩
        rw [← hx] at c0
        rw [← hy] at c1
        have HX := hide hx
        have HY := hide hy
        clear hx hy HP
        go_upto_region 5 with fail
        have hb := below_alloc wr (.cells #[.int .i64 x, .int .i64 y] 61)
        have PX := hide (Box2.new wr 61 (.int .i64 x) (.int .i64 y))
        replace HO := hide (ownsMap_below HO.out hb)
        replace HB := hide (HB.out.trans (hb.mono HB.out.size))
        clear hb c0 c1
        generalize wr.alloc (.cells #[.int .i64 x, .int .i64 y] 61) = w1 at *
        generalize wr.heap.size = gp at *
        have c0 := PX.out.cell0
        have c1 := PX.out.cell1
        go_wp2_with fail
        cases hin : inB x y with
        | false =>
          refine (norm_out x y _ hin).mono ?_
          rintro e w2 ⟨rfl, hb⟩
          replace HO := hide (ownsMap_below HO.out hb)
          replace HB := hide (HB.out.trans (hb.mono HB.out.size))
          have HI := hide hin
          clear hb c0 c1 PX hin
          go_wp2
          go_roundw
          case rel =>
            refine ⟨k + 1, D, by go_num, by omega, HT.out.pass (by rw [← HX.out, ← HY.out]; exact HI.out), ?_, ?_⟩
            · exact (ownsMap_below HO.out (below_alloc _ _)).mono (by omega)
            · exact HB.out.trans ((below_alloc _ _).mono HB.out.size)
          case measure => simp only [intOf]; omega
        | true =>
          refine (norm_in x y _ hin).mono ?_
          rintro e w2 ⟨rfl, hb⟩
          replace HO := hide (ownsMap_below HO.out hb)
          replace HB := hide (HB.out.trans (hb.mono HB.out.size))
          have HI := hide hin
          clear hb c0 c1 PX hin
          obtain ⟨s1, s2, s3, s4, _⟩ := fine (in_yes HI.out).1.1 (in_yes HI.out).1.2 (in_yes HI.out).2.1 (in_yes HI.out).2.2
          obtain ⟨kl, hkl⟩ := Try.ptKey (nA x y) (nB x y) (WalkArith.wf_i64 (by omega)) (WalkArith.wf_i64 (by omega))
          have HK := hide hkl
          have HKK : Hid (ptKL (nA (pA ps k) (pB ps k)) (nB (pA ps k) (pB ps k)) kl) := by rw [← HX.out, ← HY.out]; exact hkl
          have HII : Hid (inB (pA ps k) (pB ps k) = true) := by rw [← HX.out, ← HY.out]; exact HI.out
          clear hkl s1 s2 s3 s4
          generalize nA x y = p at *
          generalize nB x y = q at *
          go_upto_region 7 with fail
          have hb := below_alloc w2 (.cells #[.int .i64 p, .int .i64 q] 61)
          have NX := hide (Box2.new w2 61 (.int .i64 p) (.int .i64 q))
          replace HO := hide (ownsMap_below HO.out hb)
          replace HB := hide (HB.out.trans (hb.mono HB.out.size))
          clear hb
          generalize w2.alloc (.cells #[.int .i64 p, .int .i64 q] 61) = w3 at *
          generalize w2.heap.size = gn at *
          have c0 := NX.out.cell0
          have c1 := NX.out.cell1
          cases hh : Maps.has D kl with
          | true =>
            go_wp2_with (at_lookup; refine wpList_lookup_own_ok_int _ rfl _ _ 173 rfl 61 3 .i64 Try.ptKeyed Try.underlying173 Try.underlying3 (Try.zeroInt _) w.heap.size k D rfl HO.out _ kl rfl HK.out ?_; intro c hat hwc)
            try rw [Exit.noGoto_ret]
            go_ret3
            obtain ⟨i, rfl, ha⟩ := HT.out.found hlt HII.out HKK.out hh hat
            exact ⟨i, k, true, rfl, ha, HB.out⟩
          | false =>
            have HH := hide hh
            go_wp2_with (first | (at_lookup; refine wpList_lookup_own_ok_int _ rfl _ _ 173 rfl 61 3 .i64 Try.ptKeyed Try.underlying173 Try.underlying3 (Try.zeroInt _) w.heap.size k D rfl HO.out _ kl rfl HK.out ?_; intro c hat hwc) | (at_mapUpdate; refine wpList_mapUpdate_own _ rfl _ _ _ 173 rfl 61 3 Try.ptKeyed Try.underlying173 _ w.heap.size k D rfl HO.out (by unfold maxLen; omega) _ _ kl rfl rfl HK.out (.lit (.int .i64 k)) [] (plainElem_int Try.underlying3 (WalkArith.wf_i64 (by omega))) ?_; intro w4 hown4 hgrow4))
            have HO4 := hide hown4
            have HB4 := hide (HB.out.grown hgrow4 HB.out.size (fun j hj => by cases hj; exact Nat.le_refl _))
            clear hown4 hgrow4 hat hwc hh c0 c1
            go_wp2
            go_roundw
            case rel => exact ⟨k + 1, _, by go_num, by omega, HT.out.new HII.out HKK.out HO.out.isMap HH.out, HO4.out, HB4.out⟩
            case measure => simp only [intOf]; omega
      · go_wp2
        try rw [Exit.noGoto_ret]
        go_ret3
        have : k = ps.length := by omega
        subst this
        exact ⟨0, 0, false, rfl, HT.out.none, HB.out⟩
end Go.Proofs.Ytapodkjmhenceaa
