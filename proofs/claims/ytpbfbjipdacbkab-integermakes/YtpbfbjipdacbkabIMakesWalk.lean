/- swagelaw02.IntegerMakes (open). -/
import Derived.Test.YtpbfbjipdacbkabIFresh
import Derived.Laws.AppendOwnNone
import Derived.Deep.Cut
namespace Go.Proofs.Ytpbfbjipdacbkab
open Go.RowKit

/-- an operation whose guard is false -/
theorem Calm.skip {P : Program} {md : Region.Mode} {ops : Array Oper} {Q : Exit → Act → World → Prop} {F : World → Prop} {pend : Nat → Bool} {i : Nat} {oi : Oper} {fuel : Nat} {listed : Array Bool} {a : Act} {w : World} (hi : ops[i]? = some oi) (hs : Region.noSelect ops = true) (hw : Waits md ops pend i = true) (hf : Region.free md ops listed i = true)
    (hr : (Region.ready md ops listed).contains i = true) (hQ : ∀ c a w, Q (.panic c) (a.put oi.dst undef) w → Q (.panic c) a w) (hF : F w) (hg : Region.wanted oi (yielded ops a.tmps) = false)
    {l' : Array Bool} (hl : listed.setIfInBounds i true = l') {d : Option Tmp} (hd : oi.dst = d) {a' : Act} (ha : a.put d undef = a') (h : Calm P md ops Q F pend fuel l' a' w) : Calm P md ops Q F pend (fuel + 1) listed a w := by
  subst hl; subst hd; subst ha
  exact Calm.first hi hs hw hQ fuel listed a w (Region.free_spec hi hf) (by simpa using hr) hF (.inr ⟨hg, rfl⟩) h
/-- a block of limbs that may be written -/
def Room99 (w : World) (g m : Nat) : Prop := ∃ cur : Array Value, w.heap[g]? = some (.cells cur 62 (0, 0)) ∧ cur.size = m
theorem Room99.cell {w : World} {g m i : Nat} (h : Room99 w g m) (hi : i < m) : ∃ u, w.cell? ⟨g, i, none⟩ = some u := by
  obtain ⟨cur, e, hs⟩ := h
  refine ⟨cur[i]'(by omega), ?_⟩
  simp [World.cell?, e, show i < cur.size by omega]
theorem Room99.free {w : World} {g m : Nat} (h : Room99 w g m) (i : Nat) : w.frozen? ⟨g, i, none⟩ = false := by
  obtain ⟨cur, e, _⟩ := h
  simp [World.frozen?, e]
theorem Room99.set {w : World} {g m : Nat} (h : Room99 w g m) (i : Nat) (u : Value) : Room99 (w.setCell ⟨g, i, none⟩ u) g m := by
  obtain ⟨cur, e, hs⟩ := h
  obtain ⟨hlt, hk⟩ := Array.getElem?_eq_some_iff.1 e
  refine ⟨cur.setIfInBounds i u, ?_, by simpa using hs⟩
  show (w.heap.modify g _)[g]? = _
  rw [Array.getElem?_eq_getElem (by rw [Array.size_modify]; exact hlt), Array.getElem_modify_self, hk]
  rfl
theorem Nums.other {w : World} {g1 off n c g o : Nat} {xs : List Nat} (h : Nums w (.slice (some ⟨g1, off, none⟩) n c) xs) (hne : g ≠ g1) (u : Value) : Nums (w.setCell ⟨g, o, none⟩ u) (.slice (some ⟨g1, off, none⟩) n c) xs := by
  obtain ⟨ho, a, cap, he, h1, h2, h3⟩ := h
  simp only [Value.slice.injEq] at he
  obtain ⟨rfl, rfl, rfl⟩ := he
  refine ⟨ho, _, _, rfl, h1, h2, fun hx => ?_⟩
  obtain ⟨b, off', hb, hc⟩ := h3 hx
  simp only [Option.some.injEq, Addr.mk.injEq, and_true] at hb
  obtain ⟨rfl, rfl⟩ := hb
  refine ⟨g1, off, rfl, fun i hi => ?_⟩
  rw [World.cell?_setCell_other]
  · exact hc i hi
  · intro e; simp only [Addr.mk.injEq] at e; exact hne e.1
theorem RowC.lt {w : World} {base g n cap : Nat} {xs : List Nat} (h : RowC w base g n cap xs) : g < w.heap.size := (World.ownsRow.lt h g rfl).2
/-- a row that is overwritten from its head on -/
def over (xs : List Nat) (d i : Nat) : List Nat := List.replicate i d ++ xs.drop i
theorem over_length (xs : List Nat) (d i : Nat) (h : i ≤ xs.length) : (over xs d i).length = xs.length := by simp [over]; omega
theorem over_at (xs : List Nat) (d i : Nat) : lm (over xs d i) i = lm xs i := by
  simp [over, lm, List.getElem?_append_right]
theorem over_set (xs : List Nat) (d i : Nat) (h : i < xs.length) : (over xs d i).set i d = over xs d (i + 1) := by
  unfold over
  rw [List.set_append_right _ _ (by simp), List.length_replicate, Nat.sub_self, List.drop_eq_getElem_cons h, List.set_cons_zero, List.replicate_succ', List.append_assoc]
  rfl
theorem RowC.step {w w' : World} {base g n cap : Nat} {xs : List Nat} (h : RowC w base g n cap xs) (hb : Below w.heap.size w w') : RowC w' base g n cap xs := by
  refine ⟨h.1, ?_⟩
  rcases h.2 with ⟨e, _⟩ | ⟨g', cap', cur, e, hg, hh, r⟩
  · simp at e
  · refine .inr ⟨g', cap', cur, e, hg, ?_, r⟩
    rw [hb.block g' (Array.getElem?_eq_some_iff.1 hh).1]; exact hh
theorem RowC.drew {w : World} {base g n cap : Nat} {xs : List Nat} (h : RowC w base g n cap xs) : RowC w.drew base g n cap xs := h

set_option maxRecDepth 100000 in
set_option maxHeartbeats 8000000 in
theorem imakes_walk (b0 : Bool) (a0 : Option Addr) (c0 : Nat) (xs : List Nat) (k : Int) (w : World) (h0 : Nums w (.slice a0 xs.length c0) xs) (hlo : -9223372036854775808 ≤ k) (hhi : k ≤ 9223372036854775807) :
    Calls Try.prog 5 #[.agg #[.bool b0, .slice a0 xs.length c0], .int .i64 k] w fun e w' => e = .returned (.bool true) ∧ Below w.heap.size w w' := by
  obtain ⟨i0, hi, hz0, hz1, hz2⟩ := info_parts Try.info62
  have hm0 := nums_len h0
  unfold maxLen at hm0
  have HL := hide hlo
  have HH := hide hhi
  have HE := hide (nboxes1 55 w (.bool b0) (.slice a0 xs.length c0))
  have HN := hide (h0.below HE.out.2)
  have HB := hide HE.out.2
  have P0 := hide HE.out.1
  clear h0 hlo hhi HE
  go_enter Try.func5, Try.ntmps5
  go_wp2_with fail
  refine (live_any _).mono ?_
  rintro e w1 ⟨rfl, hb⟩
  replace HB := hide (HB.out.trans (hb.mono HB.out.size))
  replace P0 := hide (P0.out.step hb)
  replace HN := hide (HN.out.below hb)
  have HE1 := hide P0.out.lt
  have HOK := hide HN.out.ok
  have p0 := P0.out.cell0
  have p1 := P0.out.cell1
  clear hb
  by_cases hlen : 5000 < xs.length
  · go_wp2
    go_ret
    exact ⟨rfl, HB.out⟩
  have hlI : ¬ (5000 : Int) < (xs.length : Int) := by omega
  go_upto_region 5 with fail
  go_cut [5] from 17 (fun ov wx => ∃ g1 k1, ov = .slice (some ⟨g1, 0, none⟩) xs.length k1 ∧ RowC wx w1.heap.size g1 xs.length k1 xs ∧ Below w1.heap.size w1 wx)
  case first =>
    have q1 := (P0.out.step (below_alloc w1 (.cells #[] 62))).cell1
    have HNA := hide (HN.out.below (below_alloc w1 (.cells #[] 62)))
    have HSZ : Hid (Own (w1.alloc (.cells #[] 62)) w1.heap.size (.slice (some ⟨w1.heap.size, 0, none⟩) 0 0) []) := hide (World.ownsRow_lit w1 #[] 0 (Nat.le_refl _) (by simp [maxLen]) rfl)
    cases a0 with
    | none =>
      have hnil : xs = [] := by
        by_cases e : xs = []
        · exact e
        · obtain ⟨_, a', cap', he, _, _, h3⟩ := HN.out
          simp only [Value.slice.injEq] at he
          obtain ⟨b, off, hb, _⟩ := h3 e
          rw [hb] at he; simp at he
      subst hnil
      simp only [List.length_nil] at *
      go_wp2
      go_meet
      case rel => exact ⟨w1.heap.size, 0, rfl, HSZ.out, below_alloc _ _⟩
    | some ad =>
      go_wp2_with (at_builtin; refine wpList_append_own _ rfl _ _ 25 rfl w1.heap.size 62 i0 (.int .u32 0) 1 4 Try.underlying25 hi hz0 hz1 hz2 rfl (by decide) _ _ _ rfl HSZ.out ad _ _ (ints xs) rfl HNA.out.news.1 HNA.out.news.2 (ints_one _) ?_ ?_ ?_ ?_)
      · simp [maxLen]; omega
      · simp; omega
      · simp
      intro v5 w2 hown hgrow hn
      have HB2 : Hid (Below w1.heap.size w1 w2) := hide ((below_alloc w1 _).grown hgrow (by simp) (fun j hj => by simp [Value.ownBlock] at hj; omega))
      obtain ⟨g, cap, hv, hr⟩ : ∃ g cap, v5 = .slice (some ⟨g, 0, none⟩) xs.length cap ∧ RowC w2 w1.heap.size g xs.length cap xs := by
        have h' : w2.ownsRow w1.heap.size 62 1 v5 xs.length (ints xs) := by simpa [ints] using hown
        rcases h'.2 with ⟨e, _⟩ | ⟨g, cap, cur, e, _⟩
        · exact (hn e).elim
        · exact ⟨g, cap, e, by subst e; exact h'⟩
      subst hv
      have HR5 := hide hr
      clear hown hgrow hn hr
      go_wp2
      go_meet
      case rel => exact ⟨g, cap, rfl, HR5.out, HB2.out⟩
  case rest =>
    obtain ⟨g1, k1, rfl, hr1, hb1⟩ := hcut
    clear p0 p1
    have HR1 := hide hr1
    replace HB := hide (HB.out.trans (hb1.mono HB.out.size))
    replace P0 := hide (P0.out.step hb1)
    have HG1 : Hid (w1.heap.size ≤ g1 ∧ w.heap.size < w1.heap.size) := hide ⟨hr1.ge, HE1.out⟩
    have HW12 := hide hb1.size
    have HG12 := hide hr1.lt
    have p0 := P0.out.cell0
    have p1 := P0.out.cell1
    have pf1 := P0.out.free 1
    clear hb1 hr1
    generalize wc = w2 at *
    have HSZ : Hid (Own (w2.alloc (.cells #[] 62)) w2.heap.size (.slice (some ⟨w2.heap.size, 0, none⟩) 0 0) []) := hide (World.ownsRow_lit w2 #[] 0 (Nat.le_refl _) (by simp [maxLen]) rfl)
    have HNA := hide ((HR1.out.nums rfl HOK.out).below (below_alloc w2 (.cells #[] 62)))
    go_wp2_with (at_builtin; refine wpList_append_own _ rfl _ _ 25 rfl w2.heap.size 62 i0 (.int .u32 0) 1 4 Try.underlying25 hi hz0 hz1 hz2 rfl (by decide) _ _ _ rfl HSZ.out ⟨g1, 0, none⟩ _ _ (ints xs) rfl HNA.out.news.1 HNA.out.news.2 (ints_one _) ?_ ?_ ?_ ?_)
    · simp [maxLen]; omega
    · simp; omega
    · simp
    intro v6 w3 hown hgrow hn
    have hb3 : Below w2.heap.size w2 w3 := (below_alloc w2 _).grown hgrow (by simp) (fun j hj => by simp [Value.ownBlock] at hj; omega)
    obtain ⟨g2, k2, hv, hr⟩ : ∃ g cap, v6 = .slice (some ⟨g, 0, none⟩) xs.length cap ∧ RowC w3 w2.heap.size g xs.length cap xs := by
      have h' : w3.ownsRow w2.heap.size 62 1 v6 xs.length (ints xs) := by simpa [ints] using hown
      rcases h'.2 with ⟨e, _⟩ | ⟨g, cap, cur, e, _⟩
      · exact (hn e).elim
      · exact ⟨g, cap, e, by subst e; exact h'⟩
    subst hv
    have HR2 := hide hr
    replace HB := hide (HB.out.trans (hb3.mono HB.out.size))
    replace P0 := hide (P0.out.step hb3)
    replace HR1 := hide ((HR1.out.nums rfl HOK.out).below hb3)
    clear hown hgrow hn hr p0 p1 pf1
    have p0 := P0.out.cell0
    have p1 := P0.out.cell1
    have pf1 := P0.out.free 1
    go_wp2_with fail
    have HSP := hide (Spares.set P0.out.cell1 (by simp) (.slice (some ⟨g2, 0, none⟩) xs.length k2))
    have HN2 := hide (HSP.out _ _ (HR2.out.nums rfl HOK.out))
    have HRW : Hid (RowC (w3.setCell ⟨w.heap.size, 1, none⟩ (.slice (some ⟨g2, 0, none⟩) xs.length k2)) w2.heap.size g2 xs.length k2 xs) := hide (World.ownsRow.kept HR2.out (gb_set (World.grownBy.refl _ _) 1 _) (.inr (fun h => by have h1 := HR2.out.ge; have h2 := HG1.out.2; have h3 := HW12.out; simp [Value.ownBlock] at h; omega)))
    have PN := hide (P0.out.set1 (.slice (some ⟨g2, 0, none⟩) xs.length k2))
    replace HB := hide (HB.out.setCell (p := ⟨w.heap.size, 1, none⟩) (Nat.le_refl _) (.slice (some ⟨g2, 0, none⟩) xs.length k2))
    have HOL := hide (HSP.out _ _ HR1.out)
    clear p0 p1 pf1 HR2 HSP P0 HR1
    generalize hW3 : w3.setCell ⟨w.heap.size, 1, none⟩ (.slice (some ⟨g2, 0, none⟩) xs.length k2) = W3 at *
    clear hW3
    have HGL := hide (And.intro HRW.out.lt (And.intro HRW.out.ge HG12.out))
    refine (of_fresh b0 (some ⟨g2, 0, none⟩) k2 xs _ HN2.out (by omega)).mono ?_
    rintro e q0 ⟨v, u, rfl, hI, hR, fI, fR, hb⟩
    obtain ⟨sx, nx, mx, kx, rfl, hn, he, h0⟩ := hI
    obtain ⟨sp, np, mp, kp, rfl, hn', he', h0'⟩ := hR
    have hI : IntAt q0 (.agg #[.bool sx, .slice mx (lim nx).length kx]) (sg b0 (val xs)) := ⟨sx, nx, mx, kx, rfl, hn, he, h0⟩
    have hR : RInt q0 (.agg #[.bool sp, .slice mp (D.lim np).length kp]) (sg b0 (val xs)) := ⟨sp, np, mp, kp, rfl, hn', he', h0'⟩
    have HGX := hide hb.size
    replace HB := hide (HB.out.trans ((hb).mono HB.out.size))
    replace PN := hide (PN.out.step (hb))
    replace HRW := hide (HRW.out.step (hb))
    replace HOL := hide (HOL.out.below (hb))
    replace HB := hide (HB.out.trans ((below_alloc q0 (.cells #[.bool sx, .slice mx (lim nx).length kx] 27)).mono HB.out.size))
    replace PN := hide (PN.out.step (below_alloc q0 (.cells #[.bool sx, .slice mx (lim nx).length kx] 27)))
    replace HRW := hide (HRW.out.step (below_alloc q0 (.cells #[.bool sx, .slice mx (lim nx).length kx] 27)))
    replace HOL := hide (HOL.out.below (below_alloc q0 (.cells #[.bool sx, .slice mx (lim nx).length kx] 27)))
    have VX := hide (hI.var)
    have hR2 := hR.below (below_alloc q0 (.cells #[.bool sx, .slice mx (lim nx).length kx] 27))
    replace HB := hide (HB.out.trans ((below_alloc (q0.alloc (.cells #[.bool sx, .slice mx (lim nx).length kx] 27)) (.cells #[.bool sp, .slice mp (D.lim np).length kp] 57)).mono HB.out.size))
    replace PN := hide (PN.out.step (below_alloc (q0.alloc (.cells #[.bool sx, .slice mx (lim nx).length kx] 27)) (.cells #[.bool sp, .slice mp (D.lim np).length kp] 57)))
    replace HRW := hide (HRW.out.step (below_alloc (q0.alloc (.cells #[.bool sx, .slice mx (lim nx).length kx] 27)) (.cells #[.bool sp, .slice mp (D.lim np).length kp] 57)))
    replace HOL := hide (HOL.out.below (below_alloc (q0.alloc (.cells #[.bool sx, .slice mx (lim nx).length kx] 27)) (.cells #[.bool sp, .slice mp (D.lim np).length kp] 57)))
    replace VX := hide (VX.out.step (below_alloc (q0.alloc (.cells #[.bool sx, .slice mx (lim nx).length kx] 27)) (.cells #[.bool sp, .slice mp (D.lim np).length kp] 57)))
    have VP := hide (hR2.var)
    rw [World.size_alloc] at VP
    have FI := hide (And.intro fI fR)
    clear hb hn he h0 hn' he' h0' hI hR hR2 fI fR
    go_wp2_with fail
    generalize q0.heap.size = gx at *
    generalize (q0.alloc (.cells #[.bool sx, .slice mx (lim nx).length kx] 27)).alloc (.cells #[.bool sp, .slice mp (D.lim np).length kp] 57) = w8 at *
    generalize (lim nx).length = lx at *
    generalize (D.lim np).length = lp at *
    have SX : Hid (SzI 5000 (sg b0 (val xs))) := hide (SzI.of HOK.out (by omega))
    have SK := hide (SzI.word HL.out HH.out)
    have x0 := VX.out.box.cell0
    have x1 := VX.out.box.cell1
    have y0 := VP.out.box.cell0
    have y1 := VP.out.box.cell1
    go_wp2_with fail
    refine (is_yes _ _ (sg b0 (val xs)) _ VX.out.int VP.out.int (SzI.len SX.out (by decide)) (Nat.le_trans (SzI.dlen SX.out (by decide)) (by decide))).mono ?_
    rintro e u1 ⟨rfl, hb⟩
    replace HB := hide (HB.out.trans ((hb).mono HB.out.size))
    replace PN := hide (PN.out.step (hb))
    replace HRW := hide (HRW.out.step (hb))
    replace HOL := hide (HOL.out.below (hb))
    replace VX := hide (VX.out.step (hb))
    replace VP := hide (VP.out.step (hb))
    clear hb
    clear x0 x1 y0 y1
    go_wp2_with fail
    refine (iof_any k _ HL.out HH.out).mono ?_
    rintro e u2 ⟨vk, rfl, nk, hb⟩
    replace HB := hide (HB.out.trans ((hb).mono HB.out.size))
    replace PN := hide (PN.out.step (hb))
    replace HRW := hide (HRW.out.step (hb))
    replace HOL := hide (HOL.out.below (hb))
    replace VX := hide (VX.out.step (hb))
    replace VP := hide (VP.out.step (hb))
    have TK := hide nk
    clear hb nk
    go_wp2_with fail
    refine (rof_any k _ HL.out HH.out).mono ?_
    rintro e u3 ⟨rk, rfl, nk, hb⟩
    replace HB := hide (HB.out.trans ((hb).mono HB.out.size))
    replace PN := hide (PN.out.step (hb))
    replace HRW := hide (HRW.out.step (hb))
    replace HOL := hide (HOL.out.below (hb))
    replace VX := hide (VX.out.step (hb))
    replace VP := hide (VP.out.step (hb))
    have TR := hide nk
    replace TK := hide (TK.out.below hb)
    clear hb nk
    go_wp2_with fail
    refine (is_yes _ _ k _ TK.out TR.out (SzI.len SK.out (by decide)) (Nat.le_trans (SzI.dlen SK.out (by decide)) (by decide))).mono ?_
    rintro e u4 ⟨rfl, hb⟩
    replace HB := hide (HB.out.trans ((hb).mono HB.out.size))
    replace PN := hide (PN.out.step (hb))
    replace HRW := hide (HRW.out.step (hb))
    replace HOL := hide (HOL.out.below (hb))
    replace VX := hide (VX.out.step (hb))
    replace VP := hide (VP.out.step (hb))
    clear hb
    clear TK TR
    have n1 := PN.out.cell1
    go_wp2
    clear n1
    go_loopw [8] (fun iv wr => ∃ i : Nat, i ≤ xs.length ∧ iv = .int .i64 i ∧ Below w.heap.size w wr ∧ Var wr gx sx mx lx kx (sg b0 (val xs)) ∧ RVar wr (gx + 1) sp mp lp kp (sg b0 (val xs)) ∧ Box2 wr w.heap.size 55 (.bool b0) (.slice (some ⟨g2, 0, none⟩) xs.length k2) ∧ RowC wr w2.heap.size g2 xs.length k2 (over xs 77 i) ∧ Nums wr (.slice (some ⟨g1, 0, none⟩) xs.length k1) xs) (fun iv _ => xs.length - (intOf iv).toNat)
    case atStart => exact ⟨0, Nat.zero_le _, rfl, HB.out, VX.out, VP.out, PN.out, HRW.out, HOL.out⟩
    case round =>
      clear HB VX VP PN HRW HOL
      obtain ⟨i, hiX, rfl, hB, hX, hP, hN, hrow, hold⟩ := hrel
      have HB := hide hB
      have VX := hide hX
      have VP := hide hP
      have PN := hide hN
      have HRW := hide hrow
      have HOL := hide hold
      clear hB hX hP hN hrow hold
      have n1 := PN.out.cell1
      by_cases hlt : i < xs.length
      · have hcl := HRW.out.cell (over_length xs 77 i (by omega)) i hlt
        rw [over_at xs 77 i] at hcl
        have hfr := HRW.out.free i
        obtain ⟨_, a', c', he, _, hm1, h3⟩ := HOL.out
        simp only [Value.slice.injEq] at he
        obtain ⟨rfl, _, rfl⟩ := he
        obtain ⟨B1, o1, e1, hc1⟩ := h3 (ne_nil hlt)
        simp only [Option.some.injEq, Addr.mk.injEq, and_true] at e1
        obtain ⟨rfl, rfl⟩ := e1
        have hco := hc1 i hlt
        rw [Nat.zero_add] at hco
        have hxk : lm xs i < 4294967296 := HOK.out.at i
        have hltI : (i : Int) < (xs.length : Int) := by omega
        clear hc1 h3
        go_wp2
        go_quiet (fail)
        go_wp2
        go_roundw
        case rel =>
          have q1 := HGL.out
          have q2 := HGX.out
          have q3 := HG1.out
          have q4 := HW12.out
          refine ⟨i + 1, by omega, by go_num, (below_drewN HB.out nq).setCell (p := ⟨g2, i, none⟩) (show w.heap.size ≤ g2 by omega) _, ?_, ?_, ?_, ?_, ?_⟩
          · exact ⟨(show Box (wr.drewN nq) gx _ _ from VX.out.box).set_ne (by omega) _, IntAt.elder (show IntAt (wr.drewN nq) _ _ from VX.out.int) FI.out.1 q1.1 _⟩
          · exact ⟨(show Box2 (wr.drewN nq) (gx + 1) _ _ _ from VP.out.box).set_ne (by omega) _, RInt.elder (show RInt (wr.drewN nq) _ _ from VP.out.int) FI.out.2 q1.1 _⟩
          · exact (show Box2 (wr.drewN nq) w.heap.size _ _ _ from PN.out).set_ne (by omega) _
          · rw [← over_set xs 77 i hlt]; exact (show RowC (wr.drewN nq) _ _ _ _ _ from HRW.out).set i 77
          · exact Nums.other (show Nums (wr.drewN nq) _ _ from HOL.out) (by omega) _
        case measure => simp [intOf]; omega
      · clear HOL HRW
        have x0 := VX.out.box.cell0
        have x1 := VX.out.box.cell1
        go_wp2_with fail
        refine (ilimbs_own _ (sg b0 (val xs)) _ VX.out.int (SzI.len SX.out (by decide))).mono ?_
        rintro e u5 ⟨l, rfl, hO, hb⟩
        have HB5 := hide hb
        have HO5 := hide hO
        clear hb hO x0 x1 n1 PN
        obtain ⟨wo, rfl⟩ : ∃ wo, wo = wr := ⟨_, rfl⟩
        go_upto_region 17 with fail
        go_cut [10] from 17 (fun lv wx => ∃ A M, lv = .slice A M M ∧ M ≤ 9223372036854775807 ∧ (0 < M → ∃ g, A = some ⟨g, 0, none⟩ ∧ wo.heap.size ≤ g ∧ Room99 wx g M) ∧ Below wo.heap.size wo wx)
        case first =>
          rcases HO5.out.2 with ⟨rfl, h0⟩ | ⟨g, cap, cur, rfl, hbg, hheap, hnc, hcm, hcs, ht⟩
          · go_wp2
            go_meet
            case rel => exact ⟨none, 0, rfl, by omega, fun h => absurd h (by omega), HB5.out⟩
          · have HR9 : Hid (Room99 u5 g cap) := hide ⟨cur, hheap, by omega⟩
            have HGE := hide hbg
            unfold maxLen at hcm
            clear hheap ht hcs hbg
            go_wp2
            go_meet
            case rel => exact ⟨_, cap, rfl, by omega, fun _ => ⟨g, rfl, HGE.out, HR9.out⟩, HB5.out⟩
        case rest =>
          obtain ⟨A, M, rfl, hM, hA, hbx⟩ := hcut
          have HA := hide hA
          have HBX := hide hbx
          clear hA hbx
          go_wp2
          go_loopw [11] (fun iv wx => ∃ i : Nat, i ≤ M ∧ iv = .int .i64 i ∧ (0 < M → ∃ g, A = some ⟨g, 0, none⟩ ∧ wo.heap.size ≤ g ∧ Room99 wx g M) ∧ Below wo.heap.size wo wx) (fun iv _ => M - (intOf iv).toNat)
          case atStart => exact ⟨0, Nat.zero_le _, rfl, HA.out, HBX.out⟩
          case round =>
            clear HA HBX
            obtain ⟨i, hiM, rfl, hA, hbx⟩ := hrel
            by_cases hlt : i < M
            · obtain ⟨g, rfl, hge, hr9⟩ := hA (by omega)
              obtain ⟨u9, hu9⟩ := hr9.cell hlt
              have hf9 := hr9.free i
              have HR9 := hide hr9
              have HGE := hide hge
              have HBX := hide hbx
              clear hr9 hge hbx hA
              go_wp2
              go_roundw
              case rel => exact ⟨i + 1, by omega, by go_num, fun _ => ⟨g, rfl, HGE.out, HR9.out.set _ _⟩, HBX.out.setCell (p := ⟨g, i, none⟩) HGE.out _⟩
              case measure => simp [intOf]; omega
            · replace HB := hide (HB.out.trans (hbx.mono HB.out.size))
              replace VX := hide (VX.out.step hbx)
              replace VP := hide (VP.out.step hbx)
              clear hbx hA
              have x0 := VX.out.box.cell0
              have x1 := VX.out.box.cell1
              have y0 := VP.out.box.cell0
              have y1 := VP.out.box.cell1
              go_wp2_with fail
              refine (is_yes _ _ (sg b0 (val xs)) _ VX.out.int VP.out.int (SzI.len SX.out (by decide)) (Nat.le_trans (SzI.dlen SX.out (by decide)) (by decide))).mono ?_
              rintro e w22 ⟨rfl, hb⟩
              replace HB := hide (HB.out.trans (hb.mono HB.out.size))
              replace VX := hide (VX.out.step hb)
              replace VP := hide (VP.out.step hb)
              clear hb x0 x1 y0 y1
              go_wp2_with fail
              refine (iof_any k _ HL.out HH.out).mono ?_
              rintro e w24 ⟨vk, rfl, nk, hb⟩
              replace HB := hide (HB.out.trans (hb.mono HB.out.size))
              replace VX := hide (VX.out.step hb)
              replace VP := hide (VP.out.step hb)
              have TK := hide nk
              clear hb nk
              go_wp2_with fail
              refine (ismall_any _ k _ TK.out).mono ?_
              rintro e w25 ⟨he, hb⟩
              rw [smallOf_yes ⟨HL.out, by have := HH.out; omega⟩] at he
              subst he
              replace HB := hide (HB.out.trans (hb.mono HB.out.size))
              replace VX := hide (VX.out.step hb)
              replace VP := hide (VP.out.step hb)
              clear hb TK
              have x0 := VX.out.box.cell0
              have x1 := VX.out.box.cell1
              go_wp2_with fail
              refine (ismall_any _ (sg b0 (val xs)) _ VX.out.int).mono ?_
              rintro e w26 ⟨he, hb⟩
              replace HB := hide (HB.out.trans (hb.mono HB.out.size))
              replace VX := hide (VX.out.step hb)
              replace VP := hide (VP.out.step hb)
              clear hb x0 x1
              have HC : ((sg b0 (val xs)) < (-9223372036854775808)) ∨ ((sg b0 (val xs)) = (-9223372036854775808)) ∨ ((-9223372036854775808) < (sg b0 (val xs)) ∧ (sg b0 (val xs)) < 9223372036854775807) ∨ ((sg b0 (val xs)) = 9223372036854775807) ∨ (9223372036854775807 < (sg b0 (val xs))) := by omega
              rcases HC with hq | hq | hq | hq | hq
              · have C1 : Hid (cmpZ (sg b0 (val xs)) (-9223372036854775808) = -1) := hide (by unfold cmpZ; repeat' split <;> omega)
                rw [smallOf_no (by unfold Fits; omega)] at he
                subst he
                clear hq
                go_wp2_with fail
                refine wp_calm (fun w' => Below w.heap.size w w' ∧ RVar w' (gx + 1) sp mp lp kp (sg b0 (val xs))) (fun _ => true) 11 #[false, false, false, false, false, false, false, false, false, false, false] (by kernel_rfl) rfl rfl ?_
                have HF := hide (And.intro (HB.out.drew) (VP.out.drew))
                generalize w26.drew = w26d at HF ⊢
                refine Calm.take (i := 0) (v := ?_) (a' := ?_) (l' := #[true, false, false, false, false, false, false, false, false, false, false]) (d := some 102) rfl (by kernel_rfl) (by kernel_rfl) (by kernel_rfl) (by kernel_rfl) (fun _ _ _ h => h) HF.out rfl ?_ rfl rfl ?_ ?_
                rotate_left
                · intro w' hF; have f10 := hF.2.box.cell0; have f11 := hF.2.box.cell1; clear hF; go_simp; try rfl
                rotate_left
                · simp only [Act.put]; exact rfl
                refine Calm.one (i := 1) (l' := #[true, true, false, false, false, false, false, false, false, false, false]) (by kernel_rfl) rfl rfl rfl fun K hK => ?_
                go_simp
                refine (rof_any (-9223372036854775808) _ (by decide) (by decide)).mono ?_
                rintro e u30 ⟨v30, rfl, n, hb⟩
                try replace BX := hide (BX.out.step hb)
                have T1 := hide n
                clear n
                have HF' := hide (And.intro (HF.out.1.trans ((hb).mono HF.out.1.size)) (HF.out.2.step (hb)))
                refine hK _ _ (fun _ => HF'.out) ?_
                clear hK K HF hb
                have HF := hide HF'.out
                clear HF'
                refine Calm.one (i := 2) (l' := #[true, true, true, false, false, false, false, false, false, false, false]) (by kernel_rfl) rfl rfl rfl fun K hK => ?_
                go_simp
                refine (rcmp_any _ _ (sg b0 (val xs)) (-9223372036854775808) _ HF.out.2.int T1.out).mono ?_
                rintro e u31 ⟨he, hb⟩
                rw [C1.out] at he
                subst he
                try replace BX := hide (BX.out.step hb)
                clear T1
                have HF' := hide (And.intro (HF.out.1.trans ((hb).mono HF.out.1.size)) (HF.out.2.step (hb)))
                refine hK _ _ (fun _ => HF'.out) ?_
                clear hK K HF hb
                have HF := hide HF'.out
                clear HF'
                refine Calm.take (i := 3) (v := ?_) (a' := ?_) (l' := #[true, true, true, true, false, false, false, false, false, false, false]) (d := some 105) rfl (by kernel_rfl) (by kernel_rfl) (by kernel_rfl) (by kernel_rfl) (fun _ _ _ h => h) HF.out rfl ?_ rfl rfl ?_ ?_
                rotate_left
                · intro w' hF; clear hF; go_simp; try rfl
                rotate_left
                · simp only [Act.put]; exact rfl
                refine Calm.take (i := 4) (v := ?_) (a' := ?_) (l' := #[true, true, true, true, true, false, false, false, false, false, false]) (d := some 106) rfl (by kernel_rfl) (by kernel_rfl) (by kernel_rfl) (by kernel_rfl) (fun _ _ _ h => h) HF.out rfl ?_ rfl rfl ?_ ?_
                rotate_left
                · intro w' hF; clear hF; go_simp; try rfl
                rotate_left
                · simp only [Act.put]; exact rfl
                refine Calm.skip (i := 5) (a' := ?_) (l' := #[true, true, true, true, true, true, false, false, false, false, false]) (d := some 107) rfl (by kernel_rfl) (by kernel_rfl) (by kernel_rfl) (by kernel_rfl) (fun _ _ _ h => h) HF.out (by kernel_rfl) rfl rfl ?_ ?_
                rotate_left
                · simp only [Act.put]; exact rfl
                refine Calm.skip (i := 6) (a' := ?_) (l' := #[true, true, true, true, true, true, true, false, false, false, false]) (d := some 108) rfl (by kernel_rfl) (by kernel_rfl) (by kernel_rfl) (by kernel_rfl) (fun _ _ _ h => h) HF.out (by kernel_rfl) rfl rfl ?_ ?_
                rotate_left
                · simp only [Act.put]; exact rfl
                refine Calm.skip (i := 7) (a' := ?_) (l' := #[true, true, true, true, true, true, true, true, false, false, false]) (d := some 109) rfl (by kernel_rfl) (by kernel_rfl) (by kernel_rfl) (by kernel_rfl) (fun _ _ _ h => h) HF.out (by kernel_rfl) rfl rfl ?_ ?_
                rotate_left
                · simp only [Act.put]; exact rfl
                refine Calm.skip (i := 8) (a' := ?_) (l' := #[true, true, true, true, true, true, true, true, true, false, false]) (d := some 110) rfl (by kernel_rfl) (by kernel_rfl) (by kernel_rfl) (by kernel_rfl) (fun _ _ _ h => h) HF.out (by kernel_rfl) rfl rfl ?_ ?_
                rotate_left
                · simp only [Act.put]; exact rfl
                refine Calm.take (i := 9) (v := ?_) (a' := ?_) (l' := #[true, true, true, true, true, true, true, true, true, true, false]) (d := some 111) rfl (by kernel_rfl) (by kernel_rfl) (by kernel_rfl) (by kernel_rfl) (fun _ _ _ h => h) HF.out rfl ?_ rfl rfl ?_ ?_
                rotate_left
                · intro w' hF; clear hF; go_simp; try rfl
                rotate_left
                · simp only [Act.put]; exact rfl
                refine Calm.take (i := 10) (v := ?_) (a' := ?_) (l' := #[true, true, true, true, true, true, true, true, true, true, true]) (d := some 16) rfl (by kernel_rfl) (by kernel_rfl) (by kernel_rfl) (by kernel_rfl) (fun _ _ _ h => h) HF.out rfl ?_ rfl rfl ?_ ?_
                rotate_left
                · intro w' hF; clear hF; go_simp; try rfl
                rotate_left
                · simp only [Act.put]; exact rfl
                refine Calm.done (by kernel_rfl) ?_
                replace HB := hide HF.out.1
                replace VP := hide HF.out.2
                clear HF
                go_wp2_with fail
                refine wp_calm (fun w' => Below w.heap.size w w' ∧ RVar w' (gx + 1) sp mp lp kp (sg b0 (val xs))) (fun _ => true) 29 #[false, false, false, false, false, false, false, false, false, false, false, false, false, false, false, false, false, false, false, false, false, false, false, false, false, false, false, false, false] (by kernel_rfl) rfl rfl ?_
                have HF := hide (And.intro (HB.out.drew) (VP.out.drew))
                generalize u31.drew = u31d at HF ⊢
                refine Calm.take (i := 0) (v := ?_) (a' := ?_) (l' := #[true, false, false, false, false, false, false, false, false, false, false, false, false, false, false, false, false, false, false, false, false, false, false, false, false, false, false, false, false]) (d := some 112) rfl (by kernel_rfl) (by kernel_rfl) (by kernel_rfl) (by kernel_rfl) (fun _ _ _ h => h) HF.out rfl ?_ rfl rfl ?_ ?_
                rotate_left
                · intro w' hF; clear hF; go_simp; try rfl
                rotate_left
                · simp only [Act.put]; exact rfl
                refine Calm.take (i := 1) (v := ?_) (a' := ?_) (l' := #[true, true, false, false, false, false, false, false, false, false, false, false, false, false, false, false, false, false, false, false, false, false, false, false, false, false, false, false, false]) (d := some 113) rfl (by kernel_rfl) (by kernel_rfl) (by kernel_rfl) (by kernel_rfl) (fun _ _ _ h => h) HF.out rfl ?_ rfl rfl ?_ ?_
                rotate_left
                · intro w' hF; clear hF; go_simp; try rfl
                rotate_left
                · simp only [Act.put]; exact rfl
                refine Calm.take (i := 2) (v := ?_) (a' := ?_) (l' := #[true, true, true, false, false, false, false, false, false, false, false, false, false, false, false, false, false, false, false, false, false, false, false, false, false, false, false, false, false]) (d := some 114) rfl (by kernel_rfl) (by kernel_rfl) (by kernel_rfl) (by kernel_rfl) (fun _ _ _ h => h) HF.out rfl ?_ rfl rfl ?_ ?_
                rotate_left
                · intro w' hF; clear hF; go_simp; try rfl
                rotate_left
                · simp only [Act.put]; exact rfl
                refine Calm.take (i := 3) (v := ?_) (a' := ?_) (l' := #[true, true, true, true, false, false, false, false, false, false, false, false, false, false, false, false, false, false, false, false, false, false, false, false, false, false, false, false, false]) (d := some 115) rfl (by kernel_rfl) (by kernel_rfl) (by kernel_rfl) (by kernel_rfl) (fun _ _ _ h => h) HF.out rfl ?_ rfl rfl ?_ ?_
                rotate_left
                · intro w' hF; clear hF; go_simp; try rfl
                rotate_left
                · simp only [Act.put]; exact rfl
                refine Calm.take (i := 4) (v := ?_) (a' := ?_) (l' := #[true, true, true, true, true, false, false, false, false, false, false, false, false, false, false, false, false, false, false, false, false, false, false, false, false, false, false, false, false]) (d := some 116) rfl (by kernel_rfl) (by kernel_rfl) (by kernel_rfl) (by kernel_rfl) (fun _ _ _ h => h) HF.out (by kernel_rfl) ?_ rfl rfl ?_ ?_
                rotate_left
                · intro w' hF; clear hF; go_simp; try rfl
                rotate_left
                · simp only [Act.put]; exact rfl
                refine Calm.take (i := 5) (v := ?_) (a' := ?_) (l' := #[true, true, true, true, true, true, false, false, false, false, false, false, false, false, false, false, false, false, false, false, false, false, false, false, false, false, false, false, false]) (d := some 117) rfl (by kernel_rfl) (by kernel_rfl) (by kernel_rfl) (by kernel_rfl) (fun _ _ _ h => h) HF.out rfl ?_ rfl rfl ?_ ?_
                rotate_left
                · intro w' hF; clear hF; go_simp; try rfl
                rotate_left
                · simp only [Act.put]; exact rfl
                refine Calm.take (i := 6) (v := ?_) (a' := ?_) (l' := #[true, true, true, true, true, true, true, false, false, false, false, false, false, false, false, false, false, false, false, false, false, false, false, false, false, false, false, false, false]) (d := some 118) rfl (by kernel_rfl) (by kernel_rfl) (by kernel_rfl) (by kernel_rfl) (fun _ _ _ h => h) HF.out rfl ?_ rfl rfl ?_ ?_
                rotate_left
                · intro w' hF; clear hF; go_simp; try rfl
                rotate_left
                · simp only [Act.put]; exact rfl
                refine Calm.take (i := 7) (v := ?_) (a' := ?_) (l' := #[true, true, true, true, true, true, true, true, false, false, false, false, false, false, false, false, false, false, false, false, false, false, false, false, false, false, false, false, false]) (d := some 119) rfl (by kernel_rfl) (by kernel_rfl) (by kernel_rfl) (by kernel_rfl) (fun _ _ _ h => h) HF.out (by kernel_rfl) ?_ rfl rfl ?_ ?_
                rotate_left
                · intro w' hF; clear hF; go_simp; try rfl
                rotate_left
                · simp only [Act.put]; exact rfl
                refine Calm.take (i := 8) (v := ?_) (a' := ?_) (l' := #[true, true, true, true, true, true, true, true, true, false, false, false, false, false, false, false, false, false, false, false, false, false, false, false, false, false, false, false, false]) (d := some 120) rfl (by kernel_rfl) (by kernel_rfl) (by kernel_rfl) (by kernel_rfl) (fun _ _ _ h => h) HF.out (by kernel_rfl) ?_ rfl rfl ?_ ?_
                rotate_left
                · intro w' hF; clear hF; go_simp; try rfl
                rotate_left
                · simp only [Act.put]; exact rfl
                refine Calm.take (i := 9) (v := ?_) (a' := ?_) (l' := #[true, true, true, true, true, true, true, true, true, true, false, false, false, false, false, false, false, false, false, false, false, false, false, false, false, false, false, false, false]) (d := some 121) rfl (by kernel_rfl) (by kernel_rfl) (by kernel_rfl) (by kernel_rfl) (fun _ _ _ h => h) HF.out (by kernel_rfl) ?_ rfl rfl ?_ ?_
                rotate_left
                · intro w' hF; clear hF; go_simp; try rfl
                rotate_left
                · simp only [Act.put]; exact rfl
                refine Calm.take (i := 10) (v := ?_) (a' := ?_) (l' := #[true, true, true, true, true, true, true, true, true, true, true, false, false, false, false, false, false, false, false, false, false, false, false, false, false, false, false, false, false]) (d := some 122) rfl (by kernel_rfl) (by kernel_rfl) (by kernel_rfl) (by kernel_rfl) (fun _ _ _ h => h) HF.out rfl ?_ rfl rfl ?_ ?_
                rotate_left
                · intro w' hF; clear hF; go_simp; try rfl
                rotate_left
                · simp only [Act.put]; exact rfl
                refine Calm.take (i := 11) (v := ?_) (a' := ?_) (l' := #[true, true, true, true, true, true, true, true, true, true, true, true, false, false, false, false, false, false, false, false, false, false, false, false, false, false, false, false, false]) (d := some 123) rfl (by kernel_rfl) (by kernel_rfl) (by kernel_rfl) (by kernel_rfl) (fun _ _ _ h => h) HF.out rfl ?_ rfl rfl ?_ ?_
                rotate_left
                · intro w' hF; clear hF; go_simp; try rfl
                rotate_left
                · simp only [Act.put]; exact rfl
                refine Calm.take (i := 12) (v := ?_) (a' := ?_) (l' := #[true, true, true, true, true, true, true, true, true, true, true, true, true, false, false, false, false, false, false, false, false, false, false, false, false, false, false, false, false]) (d := some 124) rfl (by kernel_rfl) (by kernel_rfl) (by kernel_rfl) (by kernel_rfl) (fun _ _ _ h => h) HF.out (by kernel_rfl) ?_ rfl rfl ?_ ?_
                rotate_left
                · intro w' hF; clear hF; go_simp; try rfl
                rotate_left
                · simp only [Act.put]; exact rfl
                refine Calm.take (i := 13) (v := ?_) (a' := ?_) (l' := #[true, true, true, true, true, true, true, true, true, true, true, true, true, true, false, false, false, false, false, false, false, false, false, false, false, false, false, false, false]) (d := some 125) rfl (by kernel_rfl) (by kernel_rfl) (by kernel_rfl) (by kernel_rfl) (fun _ _ _ h => h) HF.out (by kernel_rfl) ?_ rfl rfl ?_ ?_
                rotate_left
                · intro w' hF; clear hF; go_simp; try rfl
                rotate_left
                · simp only [Act.put]; exact rfl
                refine Calm.skip (i := 14) (a' := ?_) (l' := #[true, true, true, true, true, true, true, true, true, true, true, true, true, true, true, false, false, false, false, false, false, false, false, false, false, false, false, false, false]) (d := some 126) rfl (by kernel_rfl) (by kernel_rfl) (by kernel_rfl) (by kernel_rfl) (fun _ _ _ h => h) HF.out (by kernel_rfl) rfl rfl ?_ ?_
                rotate_left
                · simp only [Act.put]; exact rfl
                refine Calm.skip (i := 15) (a' := ?_) (l' := #[true, true, true, true, true, true, true, true, true, true, true, true, true, true, true, true, false, false, false, false, false, false, false, false, false, false, false, false, false]) (d := some 127) rfl (by kernel_rfl) (by kernel_rfl) (by kernel_rfl) (by kernel_rfl) (fun _ _ _ h => h) HF.out (by kernel_rfl) rfl rfl ?_ ?_
                rotate_left
                · simp only [Act.put]; exact rfl
                refine Calm.skip (i := 16) (a' := ?_) (l' := #[true, true, true, true, true, true, true, true, true, true, true, true, true, true, true, true, true, false, false, false, false, false, false, false, false, false, false, false, false]) (d := some 128) rfl (by kernel_rfl) (by kernel_rfl) (by kernel_rfl) (by kernel_rfl) (fun _ _ _ h => h) HF.out (by kernel_rfl) rfl rfl ?_ ?_
                rotate_left
                · simp only [Act.put]; exact rfl
                refine Calm.skip (i := 17) (a' := ?_) (l' := #[true, true, true, true, true, true, true, true, true, true, true, true, true, true, true, true, true, true, false, false, false, false, false, false, false, false, false, false, false]) (d := some 129) rfl (by kernel_rfl) (by kernel_rfl) (by kernel_rfl) (by kernel_rfl) (fun _ _ _ h => h) HF.out (by kernel_rfl) rfl rfl ?_ ?_
                rotate_left
                · simp only [Act.put]; exact rfl
                refine Calm.take (i := 18) (v := ?_) (a' := ?_) (l' := #[true, true, true, true, true, true, true, true, true, true, true, true, true, true, true, true, true, true, true, false, false, false, false, false, false, false, false, false, false]) (d := some 130) rfl (by kernel_rfl) (by kernel_rfl) (by kernel_rfl) (by kernel_rfl) (fun _ _ _ h => h) HF.out (by kernel_rfl) ?_ rfl rfl ?_ ?_
                rotate_left
                · intro w' hF; clear hF; go_simp; try rfl
                rotate_left
                · simp only [Act.put]; exact rfl
                refine Calm.take (i := 19) (v := ?_) (a' := ?_) (l' := #[true, true, true, true, true, true, true, true, true, true, true, true, true, true, true, true, true, true, true, true, false, false, false, false, false, false, false, false, false]) (d := some 131) rfl (by kernel_rfl) (by kernel_rfl) (by kernel_rfl) (by kernel_rfl) (fun _ _ _ h => h) HF.out (by kernel_rfl) ?_ rfl rfl ?_ ?_
                rotate_left
                · intro w' hF; clear hF; go_simp; try rfl
                rotate_left
                · simp only [Act.put]; exact rfl
                refine Calm.take (i := 20) (v := ?_) (a' := ?_) (l' := #[true, true, true, true, true, true, true, true, true, true, true, true, true, true, true, true, true, true, true, true, true, false, false, false, false, false, false, false, false]) (d := some 132) rfl (by kernel_rfl) (by kernel_rfl) (by kernel_rfl) (by kernel_rfl) (fun _ _ _ h => h) HF.out (by kernel_rfl) ?_ rfl rfl ?_ ?_
                rotate_left
                · intro w' hF; clear hF; go_simp; try rfl
                rotate_left
                · simp only [Act.put]; exact rfl
                refine Calm.take (i := 21) (v := ?_) (a' := ?_) (l' := #[true, true, true, true, true, true, true, true, true, true, true, true, true, true, true, true, true, true, true, true, true, true, false, false, false, false, false, false, false]) (d := some 133) rfl (by kernel_rfl) (by kernel_rfl) (by kernel_rfl) (by kernel_rfl) (fun _ _ _ h => h) HF.out (by kernel_rfl) ?_ rfl rfl ?_ ?_
                rotate_left
                · intro w' hF; clear hF; go_simp; try rfl
                rotate_left
                · simp only [Act.put]; exact rfl
                refine Calm.take (i := 22) (v := ?_) (a' := ?_) (l' := #[true, true, true, true, true, true, true, true, true, true, true, true, true, true, true, true, true, true, true, true, true, true, true, false, false, false, false, false, false]) (d := some 134) rfl (by kernel_rfl) (by kernel_rfl) (by kernel_rfl) (by kernel_rfl) (fun _ _ _ h => h) HF.out (by kernel_rfl) ?_ rfl rfl ?_ ?_
                rotate_left
                · intro w' hF; clear hF; go_simp; try rfl
                rotate_left
                · simp only [Act.put]; exact rfl
                refine Calm.take (i := 23) (v := ?_) (a' := ?_) (l' := #[true, true, true, true, true, true, true, true, true, true, true, true, true, true, true, true, true, true, true, true, true, true, true, true, false, false, false, false, false]) (d := some 135) rfl (by kernel_rfl) (by kernel_rfl) (by kernel_rfl) (by kernel_rfl) (fun _ _ _ h => h) HF.out (by kernel_rfl) ?_ rfl rfl ?_ ?_
                rotate_left
                · intro w' hF; clear hF; go_simp; try rfl
                rotate_left
                · simp only [Act.put]; exact rfl
                refine Calm.take (i := 24) (v := ?_) (a' := ?_) (l' := #[true, true, true, true, true, true, true, true, true, true, true, true, true, true, true, true, true, true, true, true, true, true, true, true, true, false, false, false, false]) (d := some 136) rfl (by kernel_rfl) (by kernel_rfl) (by kernel_rfl) (by kernel_rfl) (fun _ _ _ h => h) HF.out (by kernel_rfl) ?_ rfl rfl ?_ ?_
                rotate_left
                · intro w' hF; clear hF; go_simp; try rfl
                rotate_left
                · simp only [Act.put]; exact rfl
                refine Calm.take (i := 25) (v := ?_) (a' := ?_) (l' := #[true, true, true, true, true, true, true, true, true, true, true, true, true, true, true, true, true, true, true, true, true, true, true, true, true, true, false, false, false]) (d := some 137) rfl (by kernel_rfl) (by kernel_rfl) (by kernel_rfl) (by kernel_rfl) (fun _ _ _ h => h) HF.out (by kernel_rfl) ?_ rfl rfl ?_ ?_
                rotate_left
                · intro w' hF; clear hF; go_simp; try rfl
                rotate_left
                · simp only [Act.put]; exact rfl
                refine Calm.take (i := 26) (v := ?_) (a' := ?_) (l' := #[true, true, true, true, true, true, true, true, true, true, true, true, true, true, true, true, true, true, true, true, true, true, true, true, true, true, true, false, false]) (d := some 138) rfl (by kernel_rfl) (by kernel_rfl) (by kernel_rfl) (by kernel_rfl) (fun _ _ _ h => h) HF.out (by kernel_rfl) ?_ rfl rfl ?_ ?_
                rotate_left
                · intro w' hF; clear hF; go_simp; try rfl
                rotate_left
                · simp only [Act.put]; exact rfl
                refine Calm.take (i := 27) (v := ?_) (a' := ?_) (l' := #[true, true, true, true, true, true, true, true, true, true, true, true, true, true, true, true, true, true, true, true, true, true, true, true, true, true, true, true, false]) (d := some 139) rfl (by kernel_rfl) (by kernel_rfl) (by kernel_rfl) (by kernel_rfl) (fun _ _ _ h => h) HF.out rfl ?_ rfl rfl ?_ ?_
                rotate_left
                · intro w' hF; clear hF; go_simp; try rfl
                rotate_left
                · simp only [Act.put]; exact rfl
                refine Calm.take (i := 28) (v := ?_) (a' := ?_) (l' := #[true, true, true, true, true, true, true, true, true, true, true, true, true, true, true, true, true, true, true, true, true, true, true, true, true, true, true, true, true]) (d := some 4) rfl (by kernel_rfl) (by kernel_rfl) (by kernel_rfl) (by kernel_rfl) (fun _ _ _ h => h) HF.out rfl ?_ rfl rfl ?_ ?_
                rotate_left
                · intro w' hF; clear hF; go_simp; try rfl
                rotate_left
                · simp only [Act.put]; exact rfl
                refine Calm.done (by kernel_rfl) ?_
                refine (by assumption : ∀ (a : Act) (w : World), Code.wp Try.prog Code.ret _ a w → _) _ _ ?_
                refine wp_ret ?_
                refine bodyPost_ret (results_tmp rfl _ _ _) rfl ⟨?_, HF.out.1⟩
                exact congrArg Ending.returned (by kernel_rfl)
              · have C1 : Hid (cmpZ (sg b0 (val xs)) (-9223372036854775808) = 0) := hide (by unfold cmpZ; repeat' split <;> omega)
                have C2 : Hid (cmpZ (sg b0 (val xs)) 9223372036854775807 = -1) := hide (by unfold cmpZ; repeat' split <;> omega)
                have FT : Hid (Fits (sg b0 (val xs))) := hide (by unfold Fits; omega)
                rw [smallOf_yes FT.out] at he
                subst he
                clear hq
                go_wp2_with fail
                refine wp_calm (fun w' => Below w.heap.size w w' ∧ RVar w' (gx + 1) sp mp lp kp (sg b0 (val xs))) (fun _ => true) 11 #[false, false, false, false, false, false, false, false, false, false, false] (by kernel_rfl) rfl rfl ?_
                have HF := hide (And.intro (HB.out.drew) (VP.out.drew))
                generalize w26.drew = w26d at HF ⊢
                refine Calm.take (i := 0) (v := ?_) (a' := ?_) (l' := #[true, false, false, false, false, false, false, false, false, false, false]) (d := some 102) rfl (by kernel_rfl) (by kernel_rfl) (by kernel_rfl) (by kernel_rfl) (fun _ _ _ h => h) HF.out rfl ?_ rfl rfl ?_ ?_
                rotate_left
                · intro w' hF; have f10 := hF.2.box.cell0; have f11 := hF.2.box.cell1; clear hF; go_simp; try rfl
                rotate_left
                · simp only [Act.put]; exact rfl
                refine Calm.one (i := 1) (l' := #[true, true, false, false, false, false, false, false, false, false, false]) (by kernel_rfl) rfl rfl rfl fun K hK => ?_
                go_simp
                refine (rof_any (-9223372036854775808) _ (by decide) (by decide)).mono ?_
                rintro e u30 ⟨v30, rfl, n, hb⟩
                try replace BX := hide (BX.out.step hb)
                have T1 := hide n
                clear n
                have HF' := hide (And.intro (HF.out.1.trans ((hb).mono HF.out.1.size)) (HF.out.2.step (hb)))
                refine hK _ _ (fun _ => HF'.out) ?_
                clear hK K HF hb
                have HF := hide HF'.out
                clear HF'
                refine Calm.one (i := 2) (l' := #[true, true, true, false, false, false, false, false, false, false, false]) (by kernel_rfl) rfl rfl rfl fun K hK => ?_
                go_simp
                refine (rcmp_any _ _ (sg b0 (val xs)) (-9223372036854775808) _ HF.out.2.int T1.out).mono ?_
                rintro e u31 ⟨he, hb⟩
                rw [C1.out] at he
                subst he
                try replace BX := hide (BX.out.step hb)
                clear T1
                have HF' := hide (And.intro (HF.out.1.trans ((hb).mono HF.out.1.size)) (HF.out.2.step (hb)))
                refine hK _ _ (fun _ => HF'.out) ?_
                clear hK K HF hb
                have HF := hide HF'.out
                clear HF'
                refine Calm.take (i := 3) (v := ?_) (a' := ?_) (l' := #[true, true, true, true, false, false, false, false, false, false, false]) (d := some 105) rfl (by kernel_rfl) (by kernel_rfl) (by kernel_rfl) (by kernel_rfl) (fun _ _ _ h => h) HF.out rfl ?_ rfl rfl ?_ ?_
                rotate_left
                · intro w' hF; clear hF; go_simp; try rfl
                rotate_left
                · simp only [Act.put]; exact rfl
                refine Calm.take (i := 4) (v := ?_) (a' := ?_) (l' := #[true, true, true, true, true, false, false, false, false, false, false]) (d := some 106) rfl (by kernel_rfl) (by kernel_rfl) (by kernel_rfl) (by kernel_rfl) (fun _ _ _ h => h) HF.out rfl ?_ rfl rfl ?_ ?_
                rotate_left
                · intro w' hF; clear hF; go_simp; try rfl
                rotate_left
                · simp only [Act.put]; exact rfl
                refine Calm.take (i := 5) (v := ?_) (a' := ?_) (l' := #[true, true, true, true, true, true, false, false, false, false, false]) (d := some 107) rfl (by kernel_rfl) (by kernel_rfl) (by kernel_rfl) (by kernel_rfl) (fun _ _ _ h => h) HF.out (by kernel_rfl) ?_ rfl rfl ?_ ?_
                rotate_left
                · intro w' hF; have f10 := hF.2.box.cell0; have f11 := hF.2.box.cell1; clear hF; go_simp; try rfl
                rotate_left
                · simp only [Act.put]; exact rfl
                refine Calm.one (i := 6) (l' := #[true, true, true, true, true, true, true, false, false, false, false]) (by kernel_rfl) rfl (by kernel_rfl) rfl fun K hK => ?_
                go_simp
                refine (rof_any 9223372036854775807 _ (by decide) (by decide)).mono ?_
                rintro e u32 ⟨v32, rfl, n, hb⟩
                try replace BX := hide (BX.out.step hb)
                have T2 := hide n
                clear n
                have HF' := hide (And.intro (HF.out.1.trans ((hb).mono HF.out.1.size)) (HF.out.2.step (hb)))
                refine hK _ _ (fun _ => HF'.out) ?_
                clear hK K HF hb
                have HF := hide HF'.out
                clear HF'
                refine Calm.one (i := 7) (l' := #[true, true, true, true, true, true, true, true, false, false, false]) (by kernel_rfl) rfl (by kernel_rfl) rfl fun K hK => ?_
                go_simp
                refine (rcmp_any _ _ (sg b0 (val xs)) 9223372036854775807 _ HF.out.2.int T2.out).mono ?_
                rintro e u33 ⟨he, hb⟩
                rw [C2.out] at he
                subst he
                try replace BX := hide (BX.out.step hb)
                clear T2
                have HF' := hide (And.intro (HF.out.1.trans ((hb).mono HF.out.1.size)) (HF.out.2.step (hb)))
                refine hK _ _ (fun _ => HF'.out) ?_
                clear hK K HF hb
                have HF := hide HF'.out
                clear HF'
                refine Calm.take (i := 8) (v := ?_) (a' := ?_) (l' := #[true, true, true, true, true, true, true, true, true, false, false]) (d := some 110) rfl (by kernel_rfl) (by kernel_rfl) (by kernel_rfl) (by kernel_rfl) (fun _ _ _ h => h) HF.out (by kernel_rfl) ?_ rfl rfl ?_ ?_
                rotate_left
                · intro w' hF; clear hF; go_simp; try rfl
                rotate_left
                · simp only [Act.put]; exact rfl
                refine Calm.take (i := 9) (v := ?_) (a' := ?_) (l' := #[true, true, true, true, true, true, true, true, true, true, false]) (d := some 111) rfl (by kernel_rfl) (by kernel_rfl) (by kernel_rfl) (by kernel_rfl) (fun _ _ _ h => h) HF.out rfl ?_ rfl rfl ?_ ?_
                rotate_left
                · intro w' hF; clear hF; go_simp; try rfl
                rotate_left
                · simp only [Act.put]; exact rfl
                refine Calm.take (i := 10) (v := ?_) (a' := ?_) (l' := #[true, true, true, true, true, true, true, true, true, true, true]) (d := some 16) rfl (by kernel_rfl) (by kernel_rfl) (by kernel_rfl) (by kernel_rfl) (fun _ _ _ h => h) HF.out rfl ?_ rfl rfl ?_ ?_
                rotate_left
                · intro w' hF; clear hF; go_simp; try rfl
                rotate_left
                · simp only [Act.put]; exact rfl
                refine Calm.done (by kernel_rfl) ?_
                replace HB := hide HF.out.1
                replace VP := hide HF.out.2
                clear HF
                go_wp2_with fail
                refine wp_calm (fun w' => Below w.heap.size w w' ∧ RVar w' (gx + 1) sp mp lp kp (sg b0 (val xs))) (fun _ => true) 29 #[false, false, false, false, false, false, false, false, false, false, false, false, false, false, false, false, false, false, false, false, false, false, false, false, false, false, false, false, false] (by kernel_rfl) rfl rfl ?_
                have HF := hide (And.intro (HB.out.drew) (VP.out.drew))
                generalize u33.drew = u33d at HF ⊢
                refine Calm.take (i := 0) (v := ?_) (a' := ?_) (l' := #[true, false, false, false, false, false, false, false, false, false, false, false, false, false, false, false, false, false, false, false, false, false, false, false, false, false, false, false, false]) (d := some 112) rfl (by kernel_rfl) (by kernel_rfl) (by kernel_rfl) (by kernel_rfl) (fun _ _ _ h => h) HF.out rfl ?_ rfl rfl ?_ ?_
                rotate_left
                · intro w' hF; clear hF; go_simp; try rfl
                rotate_left
                · simp only [Act.put]; exact rfl
                refine Calm.take (i := 1) (v := ?_) (a' := ?_) (l' := #[true, true, false, false, false, false, false, false, false, false, false, false, false, false, false, false, false, false, false, false, false, false, false, false, false, false, false, false, false]) (d := some 113) rfl (by kernel_rfl) (by kernel_rfl) (by kernel_rfl) (by kernel_rfl) (fun _ _ _ h => h) HF.out rfl ?_ rfl rfl ?_ ?_
                rotate_left
                · intro w' hF; clear hF; go_simp; try rfl
                rotate_left
                · simp only [Act.put]; exact rfl
                refine Calm.take (i := 2) (v := ?_) (a' := ?_) (l' := #[true, true, true, false, false, false, false, false, false, false, false, false, false, false, false, false, false, false, false, false, false, false, false, false, false, false, false, false, false]) (d := some 114) rfl (by kernel_rfl) (by kernel_rfl) (by kernel_rfl) (by kernel_rfl) (fun _ _ _ h => h) HF.out rfl ?_ rfl rfl ?_ ?_
                rotate_left
                · intro w' hF; clear hF; go_simp; try rfl
                rotate_left
                · simp only [Act.put]; exact rfl
                refine Calm.take (i := 3) (v := ?_) (a' := ?_) (l' := #[true, true, true, true, false, false, false, false, false, false, false, false, false, false, false, false, false, false, false, false, false, false, false, false, false, false, false, false, false]) (d := some 115) rfl (by kernel_rfl) (by kernel_rfl) (by kernel_rfl) (by kernel_rfl) (fun _ _ _ h => h) HF.out rfl ?_ rfl rfl ?_ ?_
                rotate_left
                · intro w' hF; clear hF; go_simp; try rfl
                rotate_left
                · simp only [Act.put]; exact rfl
                refine Calm.take (i := 4) (v := ?_) (a' := ?_) (l' := #[true, true, true, true, true, false, false, false, false, false, false, false, false, false, false, false, false, false, false, false, false, false, false, false, false, false, false, false, false]) (d := some 116) rfl (by kernel_rfl) (by kernel_rfl) (by kernel_rfl) (by kernel_rfl) (fun _ _ _ h => h) HF.out (by kernel_rfl) ?_ rfl rfl ?_ ?_
                rotate_left
                · intro w' hF; clear hF; go_simp; try rfl
                rotate_left
                · simp only [Act.put]; exact rfl
                refine Calm.take (i := 5) (v := ?_) (a' := ?_) (l' := #[true, true, true, true, true, true, false, false, false, false, false, false, false, false, false, false, false, false, false, false, false, false, false, false, false, false, false, false, false]) (d := some 117) rfl (by kernel_rfl) (by kernel_rfl) (by kernel_rfl) (by kernel_rfl) (fun _ _ _ h => h) HF.out rfl ?_ rfl rfl ?_ ?_
                rotate_left
                · intro w' hF; clear hF; go_simp; try rfl
                rotate_left
                · simp only [Act.put]; exact rfl
                refine Calm.take (i := 6) (v := ?_) (a' := ?_) (l' := #[true, true, true, true, true, true, true, false, false, false, false, false, false, false, false, false, false, false, false, false, false, false, false, false, false, false, false, false, false]) (d := some 118) rfl (by kernel_rfl) (by kernel_rfl) (by kernel_rfl) (by kernel_rfl) (fun _ _ _ h => h) HF.out rfl ?_ rfl rfl ?_ ?_
                rotate_left
                · intro w' hF; clear hF; go_simp; try rfl
                rotate_left
                · simp only [Act.put]; exact rfl
                refine Calm.take (i := 7) (v := ?_) (a' := ?_) (l' := #[true, true, true, true, true, true, true, true, false, false, false, false, false, false, false, false, false, false, false, false, false, false, false, false, false, false, false, false, false]) (d := some 119) rfl (by kernel_rfl) (by kernel_rfl) (by kernel_rfl) (by kernel_rfl) (fun _ _ _ h => h) HF.out (by kernel_rfl) ?_ rfl rfl ?_ ?_
                rotate_left
                · intro w' hF; clear hF; go_simp; try rfl
                rotate_left
                · simp only [Act.put]; exact rfl
                refine Calm.take (i := 8) (v := ?_) (a' := ?_) (l' := #[true, true, true, true, true, true, true, true, true, false, false, false, false, false, false, false, false, false, false, false, false, false, false, false, false, false, false, false, false]) (d := some 120) rfl (by kernel_rfl) (by kernel_rfl) (by kernel_rfl) (by kernel_rfl) (fun _ _ _ h => h) HF.out (by kernel_rfl) ?_ rfl rfl ?_ ?_
                rotate_left
                · intro w' hF; clear hF; go_simp; try rfl
                rotate_left
                · simp only [Act.put]; exact rfl
                refine Calm.take (i := 9) (v := ?_) (a' := ?_) (l' := #[true, true, true, true, true, true, true, true, true, true, false, false, false, false, false, false, false, false, false, false, false, false, false, false, false, false, false, false, false]) (d := some 121) rfl (by kernel_rfl) (by kernel_rfl) (by kernel_rfl) (by kernel_rfl) (fun _ _ _ h => h) HF.out (by kernel_rfl) ?_ rfl rfl ?_ ?_
                rotate_left
                · intro w' hF; clear hF; go_simp; try rfl
                rotate_left
                · simp only [Act.put]; exact rfl
                refine Calm.take (i := 10) (v := ?_) (a' := ?_) (l' := #[true, true, true, true, true, true, true, true, true, true, true, false, false, false, false, false, false, false, false, false, false, false, false, false, false, false, false, false, false]) (d := some 122) rfl (by kernel_rfl) (by kernel_rfl) (by kernel_rfl) (by kernel_rfl) (fun _ _ _ h => h) HF.out rfl ?_ rfl rfl ?_ ?_
                rotate_left
                · intro w' hF; clear hF; go_simp; try rfl
                rotate_left
                · simp only [Act.put]; exact rfl
                refine Calm.take (i := 11) (v := ?_) (a' := ?_) (l' := #[true, true, true, true, true, true, true, true, true, true, true, true, false, false, false, false, false, false, false, false, false, false, false, false, false, false, false, false, false]) (d := some 123) rfl (by kernel_rfl) (by kernel_rfl) (by kernel_rfl) (by kernel_rfl) (fun _ _ _ h => h) HF.out rfl ?_ rfl rfl ?_ ?_
                rotate_left
                · intro w' hF; clear hF; go_simp; try rfl
                rotate_left
                · simp only [Act.put]; exact rfl
                refine Calm.take (i := 12) (v := ?_) (a' := ?_) (l' := #[true, true, true, true, true, true, true, true, true, true, true, true, true, false, false, false, false, false, false, false, false, false, false, false, false, false, false, false, false]) (d := some 124) rfl (by kernel_rfl) (by kernel_rfl) (by kernel_rfl) (by kernel_rfl) (fun _ _ _ h => h) HF.out (by kernel_rfl) ?_ rfl rfl ?_ ?_
                rotate_left
                · intro w' hF; clear hF; go_simp; try rfl
                rotate_left
                · simp only [Act.put]; exact rfl
                refine Calm.take (i := 13) (v := ?_) (a' := ?_) (l' := #[true, true, true, true, true, true, true, true, true, true, true, true, true, true, false, false, false, false, false, false, false, false, false, false, false, false, false, false, false]) (d := some 125) rfl (by kernel_rfl) (by kernel_rfl) (by kernel_rfl) (by kernel_rfl) (fun _ _ _ h => h) HF.out (by kernel_rfl) ?_ rfl rfl ?_ ?_
                rotate_left
                · intro w' hF; clear hF; go_simp; try rfl
                rotate_left
                · simp only [Act.put]; exact rfl
                refine Calm.take (i := 14) (v := ?_) (a' := ?_) (l' := #[true, true, true, true, true, true, true, true, true, true, true, true, true, true, true, false, false, false, false, false, false, false, false, false, false, false, false, false, false]) (d := some 126) rfl (by kernel_rfl) (by kernel_rfl) (by kernel_rfl) (by kernel_rfl) (fun _ _ _ h => h) HF.out (by kernel_rfl) ?_ rfl rfl ?_ ?_
                rotate_left
                · intro w' hF; clear hF; go_simp; try rfl
                rotate_left
                · simp only [Act.put]; exact rfl
                refine Calm.take (i := 16) (v := ?_) (a' := ?_) (l' := #[true, true, true, true, true, true, true, true, true, true, true, true, true, true, true, false, true, false, false, false, false, false, false, false, false, false, false, false, false]) (d := some 128) rfl (by kernel_rfl) (by kernel_rfl) (by kernel_rfl) (by kernel_rfl) (fun _ _ _ h => h) HF.out (by kernel_rfl) ?_ rfl rfl ?_ ?_
                rotate_left
                · intro w' hF; have f10 := hF.2.box.cell0; have f11 := hF.2.box.cell1; clear hF; go_simp; try rfl
                rotate_left
                · simp only [Act.put]; exact rfl
                refine Calm.one (i := 15) (l' := #[true, true, true, true, true, true, true, true, true, true, true, true, true, true, true, true, true, false, false, false, false, false, false, false, false, false, false, false, false]) (by kernel_rfl) rfl (by kernel_rfl) rfl fun K hK => ?_
                go_simp
                refine (iof_any (sg b0 (val xs)) _ FT.out.1 (by have := FT.out.2; omega)).mono ?_
                rintro e u40 ⟨v40, rfl, n, hb⟩
                try replace BX := hide (BX.out.step hb)
                have T3 := hide n
                clear n
                have HF' := hide (And.intro (HF.out.1.trans ((hb).mono HF.out.1.size)) (HF.out.2.step (hb)))
                refine hK _ _ (fun _ => HF'.out) ?_
                clear hK K HF hb
                have HF := hide HF'.out
                clear HF'
                refine Calm.one (i := 17) (l' := #[true, true, true, true, true, true, true, true, true, true, true, true, true, true, true, true, true, true, false, false, false, false, false, false, false, false, false, false, false]) (by kernel_rfl) rfl (by kernel_rfl) rfl fun K hK => ?_
                go_simp
                refine (is_yes _ _ (sg b0 (val xs)) _ T3.out HF.out.2.int (SzI.len SX.out (by decide)) (Nat.le_trans (SzI.dlen SX.out (by decide)) (by decide))).mono ?_
                rintro e u41 ⟨rfl, hb⟩
                try replace BX := hide (BX.out.step hb)
                clear T3
                have HF' := hide (And.intro (HF.out.1.trans ((hb).mono HF.out.1.size)) (HF.out.2.step (hb)))
                refine hK _ _ (fun _ => HF'.out) ?_
                clear hK K HF hb
                have HF := hide HF'.out
                clear HF'
                refine Calm.take (i := 18) (v := ?_) (a' := ?_) (l' := #[true, true, true, true, true, true, true, true, true, true, true, true, true, true, true, true, true, true, true, false, false, false, false, false, false, false, false, false, false]) (d := some 130) rfl (by kernel_rfl) (by kernel_rfl) (by kernel_rfl) (by kernel_rfl) (fun _ _ _ h => h) HF.out (by kernel_rfl) ?_ rfl rfl ?_ ?_
                rotate_left
                · intro w' hF; clear hF; go_simp; try rfl
                rotate_left
                · simp only [Act.put]; exact rfl
                refine Calm.take (i := 19) (v := ?_) (a' := ?_) (l' := #[true, true, true, true, true, true, true, true, true, true, true, true, true, true, true, true, true, true, true, true, false, false, false, false, false, false, false, false, false]) (d := some 131) rfl (by kernel_rfl) (by kernel_rfl) (by kernel_rfl) (by kernel_rfl) (fun _ _ _ h => h) HF.out (by kernel_rfl) ?_ rfl rfl ?_ ?_
                rotate_left
                · intro w' hF; clear hF; go_simp; try rfl
                rotate_left
                · simp only [Act.put]; exact rfl
                refine Calm.skip (i := 20) (a' := ?_) (l' := #[true, true, true, true, true, true, true, true, true, true, true, true, true, true, true, true, true, true, true, true, true, false, false, false, false, false, false, false, false]) (d := some 132) rfl (by kernel_rfl) (by kernel_rfl) (by kernel_rfl) (by kernel_rfl) (fun _ _ _ h => h) HF.out (by kernel_rfl) rfl rfl ?_ ?_
                rotate_left
                · simp only [Act.put]; exact rfl
                refine Calm.skip (i := 21) (a' := ?_) (l' := #[true, true, true, true, true, true, true, true, true, true, true, true, true, true, true, true, true, true, true, true, true, true, false, false, false, false, false, false, false]) (d := some 133) rfl (by kernel_rfl) (by kernel_rfl) (by kernel_rfl) (by kernel_rfl) (fun _ _ _ h => h) HF.out (by kernel_rfl) rfl rfl ?_ ?_
                rotate_left
                · simp only [Act.put]; exact rfl
                refine Calm.skip (i := 22) (a' := ?_) (l' := #[true, true, true, true, true, true, true, true, true, true, true, true, true, true, true, true, true, true, true, true, true, true, true, false, false, false, false, false, false]) (d := some 134) rfl (by kernel_rfl) (by kernel_rfl) (by kernel_rfl) (by kernel_rfl) (fun _ _ _ h => h) HF.out (by kernel_rfl) rfl rfl ?_ ?_
                rotate_left
                · simp only [Act.put]; exact rfl
                refine Calm.skip (i := 23) (a' := ?_) (l' := #[true, true, true, true, true, true, true, true, true, true, true, true, true, true, true, true, true, true, true, true, true, true, true, true, false, false, false, false, false]) (d := some 135) rfl (by kernel_rfl) (by kernel_rfl) (by kernel_rfl) (by kernel_rfl) (fun _ _ _ h => h) HF.out (by kernel_rfl) rfl rfl ?_ ?_
                rotate_left
                · simp only [Act.put]; exact rfl
                refine Calm.skip (i := 24) (a' := ?_) (l' := #[true, true, true, true, true, true, true, true, true, true, true, true, true, true, true, true, true, true, true, true, true, true, true, true, true, false, false, false, false]) (d := some 136) rfl (by kernel_rfl) (by kernel_rfl) (by kernel_rfl) (by kernel_rfl) (fun _ _ _ h => h) HF.out (by kernel_rfl) rfl rfl ?_ ?_
                rotate_left
                · simp only [Act.put]; exact rfl
                refine Calm.skip (i := 25) (a' := ?_) (l' := #[true, true, true, true, true, true, true, true, true, true, true, true, true, true, true, true, true, true, true, true, true, true, true, true, true, true, false, false, false]) (d := some 137) rfl (by kernel_rfl) (by kernel_rfl) (by kernel_rfl) (by kernel_rfl) (fun _ _ _ h => h) HF.out (by kernel_rfl) rfl rfl ?_ ?_
                rotate_left
                · simp only [Act.put]; exact rfl
                refine Calm.take (i := 26) (v := ?_) (a' := ?_) (l' := #[true, true, true, true, true, true, true, true, true, true, true, true, true, true, true, true, true, true, true, true, true, true, true, true, true, true, true, false, false]) (d := some 138) rfl (by kernel_rfl) (by kernel_rfl) (by kernel_rfl) (by kernel_rfl) (fun _ _ _ h => h) HF.out (by kernel_rfl) ?_ rfl rfl ?_ ?_
                rotate_left
                · intro w' hF; clear hF; go_simp; try rfl
                rotate_left
                · simp only [Act.put]; exact rfl
                refine Calm.take (i := 27) (v := ?_) (a' := ?_) (l' := #[true, true, true, true, true, true, true, true, true, true, true, true, true, true, true, true, true, true, true, true, true, true, true, true, true, true, true, true, false]) (d := some 139) rfl (by kernel_rfl) (by kernel_rfl) (by kernel_rfl) (by kernel_rfl) (fun _ _ _ h => h) HF.out rfl ?_ rfl rfl ?_ ?_
                rotate_left
                · intro w' hF; clear hF; go_simp; try rfl
                rotate_left
                · simp only [Act.put]; exact rfl
                refine Calm.take (i := 28) (v := ?_) (a' := ?_) (l' := #[true, true, true, true, true, true, true, true, true, true, true, true, true, true, true, true, true, true, true, true, true, true, true, true, true, true, true, true, true]) (d := some 4) rfl (by kernel_rfl) (by kernel_rfl) (by kernel_rfl) (by kernel_rfl) (fun _ _ _ h => h) HF.out rfl ?_ rfl rfl ?_ ?_
                rotate_left
                · intro w' hF; clear hF; go_simp; try rfl
                rotate_left
                · simp only [Act.put]; exact rfl
                refine Calm.done (by kernel_rfl) ?_
                refine (by assumption : ∀ (a : Act) (w : World), Code.wp Try.prog Code.ret _ a w → _) _ _ ?_
                refine wp_ret ?_
                refine bodyPost_ret (results_tmp rfl _ _ _) rfl ⟨?_, HF.out.1⟩
                exact congrArg Ending.returned (by kernel_rfl)
              · have C1 : Hid (cmpZ (sg b0 (val xs)) (-9223372036854775808) = 1) := hide (by unfold cmpZ; repeat' split <;> omega)
                have C2 : Hid (cmpZ (sg b0 (val xs)) 9223372036854775807 = -1) := hide (by unfold cmpZ; repeat' split <;> omega)
                have FT : Hid (Fits (sg b0 (val xs))) := hide (by unfold Fits; omega)
                rw [smallOf_yes FT.out] at he
                subst he
                clear hq
                go_wp2_with fail
                refine wp_calm (fun w' => Below w.heap.size w w' ∧ RVar w' (gx + 1) sp mp lp kp (sg b0 (val xs))) (fun _ => true) 11 #[false, false, false, false, false, false, false, false, false, false, false] (by kernel_rfl) rfl rfl ?_
                have HF := hide (And.intro (HB.out.drew) (VP.out.drew))
                generalize w26.drew = w26d at HF ⊢
                refine Calm.take (i := 0) (v := ?_) (a' := ?_) (l' := #[true, false, false, false, false, false, false, false, false, false, false]) (d := some 102) rfl (by kernel_rfl) (by kernel_rfl) (by kernel_rfl) (by kernel_rfl) (fun _ _ _ h => h) HF.out rfl ?_ rfl rfl ?_ ?_
                rotate_left
                · intro w' hF; have f10 := hF.2.box.cell0; have f11 := hF.2.box.cell1; clear hF; go_simp; try rfl
                rotate_left
                · simp only [Act.put]; exact rfl
                refine Calm.one (i := 1) (l' := #[true, true, false, false, false, false, false, false, false, false, false]) (by kernel_rfl) rfl rfl rfl fun K hK => ?_
                go_simp
                refine (rof_any (-9223372036854775808) _ (by decide) (by decide)).mono ?_
                rintro e u30 ⟨v30, rfl, n, hb⟩
                try replace BX := hide (BX.out.step hb)
                have T1 := hide n
                clear n
                have HF' := hide (And.intro (HF.out.1.trans ((hb).mono HF.out.1.size)) (HF.out.2.step (hb)))
                refine hK _ _ (fun _ => HF'.out) ?_
                clear hK K HF hb
                have HF := hide HF'.out
                clear HF'
                refine Calm.one (i := 2) (l' := #[true, true, true, false, false, false, false, false, false, false, false]) (by kernel_rfl) rfl rfl rfl fun K hK => ?_
                go_simp
                refine (rcmp_any _ _ (sg b0 (val xs)) (-9223372036854775808) _ HF.out.2.int T1.out).mono ?_
                rintro e u31 ⟨he, hb⟩
                rw [C1.out] at he
                subst he
                try replace BX := hide (BX.out.step hb)
                clear T1
                have HF' := hide (And.intro (HF.out.1.trans ((hb).mono HF.out.1.size)) (HF.out.2.step (hb)))
                refine hK _ _ (fun _ => HF'.out) ?_
                clear hK K HF hb
                have HF := hide HF'.out
                clear HF'
                refine Calm.take (i := 3) (v := ?_) (a' := ?_) (l' := #[true, true, true, true, false, false, false, false, false, false, false]) (d := some 105) rfl (by kernel_rfl) (by kernel_rfl) (by kernel_rfl) (by kernel_rfl) (fun _ _ _ h => h) HF.out rfl ?_ rfl rfl ?_ ?_
                rotate_left
                · intro w' hF; clear hF; go_simp; try rfl
                rotate_left
                · simp only [Act.put]; exact rfl
                refine Calm.take (i := 4) (v := ?_) (a' := ?_) (l' := #[true, true, true, true, true, false, false, false, false, false, false]) (d := some 106) rfl (by kernel_rfl) (by kernel_rfl) (by kernel_rfl) (by kernel_rfl) (fun _ _ _ h => h) HF.out rfl ?_ rfl rfl ?_ ?_
                rotate_left
                · intro w' hF; clear hF; go_simp; try rfl
                rotate_left
                · simp only [Act.put]; exact rfl
                refine Calm.take (i := 5) (v := ?_) (a' := ?_) (l' := #[true, true, true, true, true, true, false, false, false, false, false]) (d := some 107) rfl (by kernel_rfl) (by kernel_rfl) (by kernel_rfl) (by kernel_rfl) (fun _ _ _ h => h) HF.out (by kernel_rfl) ?_ rfl rfl ?_ ?_
                rotate_left
                · intro w' hF; have f10 := hF.2.box.cell0; have f11 := hF.2.box.cell1; clear hF; go_simp; try rfl
                rotate_left
                · simp only [Act.put]; exact rfl
                refine Calm.one (i := 6) (l' := #[true, true, true, true, true, true, true, false, false, false, false]) (by kernel_rfl) rfl (by kernel_rfl) rfl fun K hK => ?_
                go_simp
                refine (rof_any 9223372036854775807 _ (by decide) (by decide)).mono ?_
                rintro e u32 ⟨v32, rfl, n, hb⟩
                try replace BX := hide (BX.out.step hb)
                have T2 := hide n
                clear n
                have HF' := hide (And.intro (HF.out.1.trans ((hb).mono HF.out.1.size)) (HF.out.2.step (hb)))
                refine hK _ _ (fun _ => HF'.out) ?_
                clear hK K HF hb
                have HF := hide HF'.out
                clear HF'
                refine Calm.one (i := 7) (l' := #[true, true, true, true, true, true, true, true, false, false, false]) (by kernel_rfl) rfl (by kernel_rfl) rfl fun K hK => ?_
                go_simp
                refine (rcmp_any _ _ (sg b0 (val xs)) 9223372036854775807 _ HF.out.2.int T2.out).mono ?_
                rintro e u33 ⟨he, hb⟩
                rw [C2.out] at he
                subst he
                try replace BX := hide (BX.out.step hb)
                clear T2
                have HF' := hide (And.intro (HF.out.1.trans ((hb).mono HF.out.1.size)) (HF.out.2.step (hb)))
                refine hK _ _ (fun _ => HF'.out) ?_
                clear hK K HF hb
                have HF := hide HF'.out
                clear HF'
                refine Calm.take (i := 8) (v := ?_) (a' := ?_) (l' := #[true, true, true, true, true, true, true, true, true, false, false]) (d := some 110) rfl (by kernel_rfl) (by kernel_rfl) (by kernel_rfl) (by kernel_rfl) (fun _ _ _ h => h) HF.out (by kernel_rfl) ?_ rfl rfl ?_ ?_
                rotate_left
                · intro w' hF; clear hF; go_simp; try rfl
                rotate_left
                · simp only [Act.put]; exact rfl
                refine Calm.take (i := 9) (v := ?_) (a' := ?_) (l' := #[true, true, true, true, true, true, true, true, true, true, false]) (d := some 111) rfl (by kernel_rfl) (by kernel_rfl) (by kernel_rfl) (by kernel_rfl) (fun _ _ _ h => h) HF.out rfl ?_ rfl rfl ?_ ?_
                rotate_left
                · intro w' hF; clear hF; go_simp; try rfl
                rotate_left
                · simp only [Act.put]; exact rfl
                refine Calm.take (i := 10) (v := ?_) (a' := ?_) (l' := #[true, true, true, true, true, true, true, true, true, true, true]) (d := some 16) rfl (by kernel_rfl) (by kernel_rfl) (by kernel_rfl) (by kernel_rfl) (fun _ _ _ h => h) HF.out rfl ?_ rfl rfl ?_ ?_
                rotate_left
                · intro w' hF; clear hF; go_simp; try rfl
                rotate_left
                · simp only [Act.put]; exact rfl
                refine Calm.done (by kernel_rfl) ?_
                replace HB := hide HF.out.1
                replace VP := hide HF.out.2
                clear HF
                go_wp2_with fail
                refine wp_calm (fun w' => Below w.heap.size w w' ∧ RVar w' (gx + 1) sp mp lp kp (sg b0 (val xs))) (fun _ => true) 29 #[false, false, false, false, false, false, false, false, false, false, false, false, false, false, false, false, false, false, false, false, false, false, false, false, false, false, false, false, false] (by kernel_rfl) rfl rfl ?_
                have HF := hide (And.intro (HB.out.drew) (VP.out.drew))
                generalize u33.drew = u33d at HF ⊢
                refine Calm.take (i := 0) (v := ?_) (a' := ?_) (l' := #[true, false, false, false, false, false, false, false, false, false, false, false, false, false, false, false, false, false, false, false, false, false, false, false, false, false, false, false, false]) (d := some 112) rfl (by kernel_rfl) (by kernel_rfl) (by kernel_rfl) (by kernel_rfl) (fun _ _ _ h => h) HF.out rfl ?_ rfl rfl ?_ ?_
                rotate_left
                · intro w' hF; clear hF; go_simp; try rfl
                rotate_left
                · simp only [Act.put]; exact rfl
                refine Calm.take (i := 1) (v := ?_) (a' := ?_) (l' := #[true, true, false, false, false, false, false, false, false, false, false, false, false, false, false, false, false, false, false, false, false, false, false, false, false, false, false, false, false]) (d := some 113) rfl (by kernel_rfl) (by kernel_rfl) (by kernel_rfl) (by kernel_rfl) (fun _ _ _ h => h) HF.out rfl ?_ rfl rfl ?_ ?_
                rotate_left
                · intro w' hF; clear hF; go_simp; try rfl
                rotate_left
                · simp only [Act.put]; exact rfl
                refine Calm.take (i := 2) (v := ?_) (a' := ?_) (l' := #[true, true, true, false, false, false, false, false, false, false, false, false, false, false, false, false, false, false, false, false, false, false, false, false, false, false, false, false, false]) (d := some 114) rfl (by kernel_rfl) (by kernel_rfl) (by kernel_rfl) (by kernel_rfl) (fun _ _ _ h => h) HF.out rfl ?_ rfl rfl ?_ ?_
                rotate_left
                · intro w' hF; clear hF; go_simp; try rfl
                rotate_left
                · simp only [Act.put]; exact rfl
                refine Calm.take (i := 3) (v := ?_) (a' := ?_) (l' := #[true, true, true, true, false, false, false, false, false, false, false, false, false, false, false, false, false, false, false, false, false, false, false, false, false, false, false, false, false]) (d := some 115) rfl (by kernel_rfl) (by kernel_rfl) (by kernel_rfl) (by kernel_rfl) (fun _ _ _ h => h) HF.out rfl ?_ rfl rfl ?_ ?_
                rotate_left
                · intro w' hF; clear hF; go_simp; try rfl
                rotate_left
                · simp only [Act.put]; exact rfl
                refine Calm.take (i := 4) (v := ?_) (a' := ?_) (l' := #[true, true, true, true, true, false, false, false, false, false, false, false, false, false, false, false, false, false, false, false, false, false, false, false, false, false, false, false, false]) (d := some 116) rfl (by kernel_rfl) (by kernel_rfl) (by kernel_rfl) (by kernel_rfl) (fun _ _ _ h => h) HF.out (by kernel_rfl) ?_ rfl rfl ?_ ?_
                rotate_left
                · intro w' hF; clear hF; go_simp; try rfl
                rotate_left
                · simp only [Act.put]; exact rfl
                refine Calm.take (i := 5) (v := ?_) (a' := ?_) (l' := #[true, true, true, true, true, true, false, false, false, false, false, false, false, false, false, false, false, false, false, false, false, false, false, false, false, false, false, false, false]) (d := some 117) rfl (by kernel_rfl) (by kernel_rfl) (by kernel_rfl) (by kernel_rfl) (fun _ _ _ h => h) HF.out rfl ?_ rfl rfl ?_ ?_
                rotate_left
                · intro w' hF; clear hF; go_simp; try rfl
                rotate_left
                · simp only [Act.put]; exact rfl
                refine Calm.take (i := 6) (v := ?_) (a' := ?_) (l' := #[true, true, true, true, true, true, true, false, false, false, false, false, false, false, false, false, false, false, false, false, false, false, false, false, false, false, false, false, false]) (d := some 118) rfl (by kernel_rfl) (by kernel_rfl) (by kernel_rfl) (by kernel_rfl) (fun _ _ _ h => h) HF.out rfl ?_ rfl rfl ?_ ?_
                rotate_left
                · intro w' hF; clear hF; go_simp; try rfl
                rotate_left
                · simp only [Act.put]; exact rfl
                refine Calm.take (i := 7) (v := ?_) (a' := ?_) (l' := #[true, true, true, true, true, true, true, true, false, false, false, false, false, false, false, false, false, false, false, false, false, false, false, false, false, false, false, false, false]) (d := some 119) rfl (by kernel_rfl) (by kernel_rfl) (by kernel_rfl) (by kernel_rfl) (fun _ _ _ h => h) HF.out (by kernel_rfl) ?_ rfl rfl ?_ ?_
                rotate_left
                · intro w' hF; clear hF; go_simp; try rfl
                rotate_left
                · simp only [Act.put]; exact rfl
                refine Calm.take (i := 8) (v := ?_) (a' := ?_) (l' := #[true, true, true, true, true, true, true, true, true, false, false, false, false, false, false, false, false, false, false, false, false, false, false, false, false, false, false, false, false]) (d := some 120) rfl (by kernel_rfl) (by kernel_rfl) (by kernel_rfl) (by kernel_rfl) (fun _ _ _ h => h) HF.out (by kernel_rfl) ?_ rfl rfl ?_ ?_
                rotate_left
                · intro w' hF; clear hF; go_simp; try rfl
                rotate_left
                · simp only [Act.put]; exact rfl
                refine Calm.take (i := 9) (v := ?_) (a' := ?_) (l' := #[true, true, true, true, true, true, true, true, true, true, false, false, false, false, false, false, false, false, false, false, false, false, false, false, false, false, false, false, false]) (d := some 121) rfl (by kernel_rfl) (by kernel_rfl) (by kernel_rfl) (by kernel_rfl) (fun _ _ _ h => h) HF.out (by kernel_rfl) ?_ rfl rfl ?_ ?_
                rotate_left
                · intro w' hF; clear hF; go_simp; try rfl
                rotate_left
                · simp only [Act.put]; exact rfl
                refine Calm.take (i := 10) (v := ?_) (a' := ?_) (l' := #[true, true, true, true, true, true, true, true, true, true, true, false, false, false, false, false, false, false, false, false, false, false, false, false, false, false, false, false, false]) (d := some 122) rfl (by kernel_rfl) (by kernel_rfl) (by kernel_rfl) (by kernel_rfl) (fun _ _ _ h => h) HF.out rfl ?_ rfl rfl ?_ ?_
                rotate_left
                · intro w' hF; clear hF; go_simp; try rfl
                rotate_left
                · simp only [Act.put]; exact rfl
                refine Calm.take (i := 11) (v := ?_) (a' := ?_) (l' := #[true, true, true, true, true, true, true, true, true, true, true, true, false, false, false, false, false, false, false, false, false, false, false, false, false, false, false, false, false]) (d := some 123) rfl (by kernel_rfl) (by kernel_rfl) (by kernel_rfl) (by kernel_rfl) (fun _ _ _ h => h) HF.out rfl ?_ rfl rfl ?_ ?_
                rotate_left
                · intro w' hF; clear hF; go_simp; try rfl
                rotate_left
                · simp only [Act.put]; exact rfl
                refine Calm.take (i := 12) (v := ?_) (a' := ?_) (l' := #[true, true, true, true, true, true, true, true, true, true, true, true, true, false, false, false, false, false, false, false, false, false, false, false, false, false, false, false, false]) (d := some 124) rfl (by kernel_rfl) (by kernel_rfl) (by kernel_rfl) (by kernel_rfl) (fun _ _ _ h => h) HF.out (by kernel_rfl) ?_ rfl rfl ?_ ?_
                rotate_left
                · intro w' hF; clear hF; go_simp; try rfl
                rotate_left
                · simp only [Act.put]; exact rfl
                refine Calm.take (i := 13) (v := ?_) (a' := ?_) (l' := #[true, true, true, true, true, true, true, true, true, true, true, true, true, true, false, false, false, false, false, false, false, false, false, false, false, false, false, false, false]) (d := some 125) rfl (by kernel_rfl) (by kernel_rfl) (by kernel_rfl) (by kernel_rfl) (fun _ _ _ h => h) HF.out (by kernel_rfl) ?_ rfl rfl ?_ ?_
                rotate_left
                · intro w' hF; clear hF; go_simp; try rfl
                rotate_left
                · simp only [Act.put]; exact rfl
                refine Calm.take (i := 14) (v := ?_) (a' := ?_) (l' := #[true, true, true, true, true, true, true, true, true, true, true, true, true, true, true, false, false, false, false, false, false, false, false, false, false, false, false, false, false]) (d := some 126) rfl (by kernel_rfl) (by kernel_rfl) (by kernel_rfl) (by kernel_rfl) (fun _ _ _ h => h) HF.out (by kernel_rfl) ?_ rfl rfl ?_ ?_
                rotate_left
                · intro w' hF; clear hF; go_simp; try rfl
                rotate_left
                · simp only [Act.put]; exact rfl
                refine Calm.take (i := 16) (v := ?_) (a' := ?_) (l' := #[true, true, true, true, true, true, true, true, true, true, true, true, true, true, true, false, true, false, false, false, false, false, false, false, false, false, false, false, false]) (d := some 128) rfl (by kernel_rfl) (by kernel_rfl) (by kernel_rfl) (by kernel_rfl) (fun _ _ _ h => h) HF.out (by kernel_rfl) ?_ rfl rfl ?_ ?_
                rotate_left
                · intro w' hF; have f10 := hF.2.box.cell0; have f11 := hF.2.box.cell1; clear hF; go_simp; try rfl
                rotate_left
                · simp only [Act.put]; exact rfl
                refine Calm.one (i := 15) (l' := #[true, true, true, true, true, true, true, true, true, true, true, true, true, true, true, true, true, false, false, false, false, false, false, false, false, false, false, false, false]) (by kernel_rfl) rfl (by kernel_rfl) rfl fun K hK => ?_
                go_simp
                refine (iof_any (sg b0 (val xs)) _ FT.out.1 (by have := FT.out.2; omega)).mono ?_
                rintro e u40 ⟨v40, rfl, n, hb⟩
                try replace BX := hide (BX.out.step hb)
                have T3 := hide n
                clear n
                have HF' := hide (And.intro (HF.out.1.trans ((hb).mono HF.out.1.size)) (HF.out.2.step (hb)))
                refine hK _ _ (fun _ => HF'.out) ?_
                clear hK K HF hb
                have HF := hide HF'.out
                clear HF'
                refine Calm.one (i := 17) (l' := #[true, true, true, true, true, true, true, true, true, true, true, true, true, true, true, true, true, true, false, false, false, false, false, false, false, false, false, false, false]) (by kernel_rfl) rfl (by kernel_rfl) rfl fun K hK => ?_
                go_simp
                refine (is_yes _ _ (sg b0 (val xs)) _ T3.out HF.out.2.int (SzI.len SX.out (by decide)) (Nat.le_trans (SzI.dlen SX.out (by decide)) (by decide))).mono ?_
                rintro e u41 ⟨rfl, hb⟩
                try replace BX := hide (BX.out.step hb)
                clear T3
                have HF' := hide (And.intro (HF.out.1.trans ((hb).mono HF.out.1.size)) (HF.out.2.step (hb)))
                refine hK _ _ (fun _ => HF'.out) ?_
                clear hK K HF hb
                have HF := hide HF'.out
                clear HF'
                refine Calm.take (i := 18) (v := ?_) (a' := ?_) (l' := #[true, true, true, true, true, true, true, true, true, true, true, true, true, true, true, true, true, true, true, false, false, false, false, false, false, false, false, false, false]) (d := some 130) rfl (by kernel_rfl) (by kernel_rfl) (by kernel_rfl) (by kernel_rfl) (fun _ _ _ h => h) HF.out (by kernel_rfl) ?_ rfl rfl ?_ ?_
                rotate_left
                · intro w' hF; clear hF; go_simp; try rfl
                rotate_left
                · simp only [Act.put]; exact rfl
                refine Calm.take (i := 19) (v := ?_) (a' := ?_) (l' := #[true, true, true, true, true, true, true, true, true, true, true, true, true, true, true, true, true, true, true, true, false, false, false, false, false, false, false, false, false]) (d := some 131) rfl (by kernel_rfl) (by kernel_rfl) (by kernel_rfl) (by kernel_rfl) (fun _ _ _ h => h) HF.out (by kernel_rfl) ?_ rfl rfl ?_ ?_
                rotate_left
                · intro w' hF; clear hF; go_simp; try rfl
                rotate_left
                · simp only [Act.put]; exact rfl
                refine Calm.skip (i := 20) (a' := ?_) (l' := #[true, true, true, true, true, true, true, true, true, true, true, true, true, true, true, true, true, true, true, true, true, false, false, false, false, false, false, false, false]) (d := some 132) rfl (by kernel_rfl) (by kernel_rfl) (by kernel_rfl) (by kernel_rfl) (fun _ _ _ h => h) HF.out (by kernel_rfl) rfl rfl ?_ ?_
                rotate_left
                · simp only [Act.put]; exact rfl
                refine Calm.skip (i := 21) (a' := ?_) (l' := #[true, true, true, true, true, true, true, true, true, true, true, true, true, true, true, true, true, true, true, true, true, true, false, false, false, false, false, false, false]) (d := some 133) rfl (by kernel_rfl) (by kernel_rfl) (by kernel_rfl) (by kernel_rfl) (fun _ _ _ h => h) HF.out (by kernel_rfl) rfl rfl ?_ ?_
                rotate_left
                · simp only [Act.put]; exact rfl
                refine Calm.skip (i := 22) (a' := ?_) (l' := #[true, true, true, true, true, true, true, true, true, true, true, true, true, true, true, true, true, true, true, true, true, true, true, false, false, false, false, false, false]) (d := some 134) rfl (by kernel_rfl) (by kernel_rfl) (by kernel_rfl) (by kernel_rfl) (fun _ _ _ h => h) HF.out (by kernel_rfl) rfl rfl ?_ ?_
                rotate_left
                · simp only [Act.put]; exact rfl
                refine Calm.skip (i := 23) (a' := ?_) (l' := #[true, true, true, true, true, true, true, true, true, true, true, true, true, true, true, true, true, true, true, true, true, true, true, true, false, false, false, false, false]) (d := some 135) rfl (by kernel_rfl) (by kernel_rfl) (by kernel_rfl) (by kernel_rfl) (fun _ _ _ h => h) HF.out (by kernel_rfl) rfl rfl ?_ ?_
                rotate_left
                · simp only [Act.put]; exact rfl
                refine Calm.skip (i := 24) (a' := ?_) (l' := #[true, true, true, true, true, true, true, true, true, true, true, true, true, true, true, true, true, true, true, true, true, true, true, true, true, false, false, false, false]) (d := some 136) rfl (by kernel_rfl) (by kernel_rfl) (by kernel_rfl) (by kernel_rfl) (fun _ _ _ h => h) HF.out (by kernel_rfl) rfl rfl ?_ ?_
                rotate_left
                · simp only [Act.put]; exact rfl
                refine Calm.skip (i := 25) (a' := ?_) (l' := #[true, true, true, true, true, true, true, true, true, true, true, true, true, true, true, true, true, true, true, true, true, true, true, true, true, true, false, false, false]) (d := some 137) rfl (by kernel_rfl) (by kernel_rfl) (by kernel_rfl) (by kernel_rfl) (fun _ _ _ h => h) HF.out (by kernel_rfl) rfl rfl ?_ ?_
                rotate_left
                · simp only [Act.put]; exact rfl
                refine Calm.take (i := 26) (v := ?_) (a' := ?_) (l' := #[true, true, true, true, true, true, true, true, true, true, true, true, true, true, true, true, true, true, true, true, true, true, true, true, true, true, true, false, false]) (d := some 138) rfl (by kernel_rfl) (by kernel_rfl) (by kernel_rfl) (by kernel_rfl) (fun _ _ _ h => h) HF.out (by kernel_rfl) ?_ rfl rfl ?_ ?_
                rotate_left
                · intro w' hF; clear hF; go_simp; try rfl
                rotate_left
                · simp only [Act.put]; exact rfl
                refine Calm.take (i := 27) (v := ?_) (a' := ?_) (l' := #[true, true, true, true, true, true, true, true, true, true, true, true, true, true, true, true, true, true, true, true, true, true, true, true, true, true, true, true, false]) (d := some 139) rfl (by kernel_rfl) (by kernel_rfl) (by kernel_rfl) (by kernel_rfl) (fun _ _ _ h => h) HF.out rfl ?_ rfl rfl ?_ ?_
                rotate_left
                · intro w' hF; clear hF; go_simp; try rfl
                rotate_left
                · simp only [Act.put]; exact rfl
                refine Calm.take (i := 28) (v := ?_) (a' := ?_) (l' := #[true, true, true, true, true, true, true, true, true, true, true, true, true, true, true, true, true, true, true, true, true, true, true, true, true, true, true, true, true]) (d := some 4) rfl (by kernel_rfl) (by kernel_rfl) (by kernel_rfl) (by kernel_rfl) (fun _ _ _ h => h) HF.out rfl ?_ rfl rfl ?_ ?_
                rotate_left
                · intro w' hF; clear hF; go_simp; try rfl
                rotate_left
                · simp only [Act.put]; exact rfl
                refine Calm.done (by kernel_rfl) ?_
                refine (by assumption : ∀ (a : Act) (w : World), Code.wp Try.prog Code.ret _ a w → _) _ _ ?_
                refine wp_ret ?_
                refine bodyPost_ret (results_tmp rfl _ _ _) rfl ⟨?_, HF.out.1⟩
                exact congrArg Ending.returned (by kernel_rfl)
              · have C1 : Hid (cmpZ (sg b0 (val xs)) (-9223372036854775808) = 1) := hide (by unfold cmpZ; repeat' split <;> omega)
                have C2 : Hid (cmpZ (sg b0 (val xs)) 9223372036854775807 = 0) := hide (by unfold cmpZ; repeat' split <;> omega)
                have FT : Hid (Fits (sg b0 (val xs))) := hide (by unfold Fits; omega)
                rw [smallOf_yes FT.out] at he
                subst he
                clear hq
                go_wp2_with fail
                refine wp_calm (fun w' => Below w.heap.size w w' ∧ RVar w' (gx + 1) sp mp lp kp (sg b0 (val xs))) (fun _ => true) 11 #[false, false, false, false, false, false, false, false, false, false, false] (by kernel_rfl) rfl rfl ?_
                have HF := hide (And.intro (HB.out.drew) (VP.out.drew))
                generalize w26.drew = w26d at HF ⊢
                refine Calm.take (i := 0) (v := ?_) (a' := ?_) (l' := #[true, false, false, false, false, false, false, false, false, false, false]) (d := some 102) rfl (by kernel_rfl) (by kernel_rfl) (by kernel_rfl) (by kernel_rfl) (fun _ _ _ h => h) HF.out rfl ?_ rfl rfl ?_ ?_
                rotate_left
                · intro w' hF; have f10 := hF.2.box.cell0; have f11 := hF.2.box.cell1; clear hF; go_simp; try rfl
                rotate_left
                · simp only [Act.put]; exact rfl
                refine Calm.one (i := 1) (l' := #[true, true, false, false, false, false, false, false, false, false, false]) (by kernel_rfl) rfl rfl rfl fun K hK => ?_
                go_simp
                refine (rof_any (-9223372036854775808) _ (by decide) (by decide)).mono ?_
                rintro e u30 ⟨v30, rfl, n, hb⟩
                try replace BX := hide (BX.out.step hb)
                have T1 := hide n
                clear n
                have HF' := hide (And.intro (HF.out.1.trans ((hb).mono HF.out.1.size)) (HF.out.2.step (hb)))
                refine hK _ _ (fun _ => HF'.out) ?_
                clear hK K HF hb
                have HF := hide HF'.out
                clear HF'
                refine Calm.one (i := 2) (l' := #[true, true, true, false, false, false, false, false, false, false, false]) (by kernel_rfl) rfl rfl rfl fun K hK => ?_
                go_simp
                refine (rcmp_any _ _ (sg b0 (val xs)) (-9223372036854775808) _ HF.out.2.int T1.out).mono ?_
                rintro e u31 ⟨he, hb⟩
                rw [C1.out] at he
                subst he
                try replace BX := hide (BX.out.step hb)
                clear T1
                have HF' := hide (And.intro (HF.out.1.trans ((hb).mono HF.out.1.size)) (HF.out.2.step (hb)))
                refine hK _ _ (fun _ => HF'.out) ?_
                clear hK K HF hb
                have HF := hide HF'.out
                clear HF'
                refine Calm.take (i := 3) (v := ?_) (a' := ?_) (l' := #[true, true, true, true, false, false, false, false, false, false, false]) (d := some 105) rfl (by kernel_rfl) (by kernel_rfl) (by kernel_rfl) (by kernel_rfl) (fun _ _ _ h => h) HF.out rfl ?_ rfl rfl ?_ ?_
                rotate_left
                · intro w' hF; clear hF; go_simp; try rfl
                rotate_left
                · simp only [Act.put]; exact rfl
                refine Calm.take (i := 4) (v := ?_) (a' := ?_) (l' := #[true, true, true, true, true, false, false, false, false, false, false]) (d := some 106) rfl (by kernel_rfl) (by kernel_rfl) (by kernel_rfl) (by kernel_rfl) (fun _ _ _ h => h) HF.out rfl ?_ rfl rfl ?_ ?_
                rotate_left
                · intro w' hF; clear hF; go_simp; try rfl
                rotate_left
                · simp only [Act.put]; exact rfl
                refine Calm.take (i := 5) (v := ?_) (a' := ?_) (l' := #[true, true, true, true, true, true, false, false, false, false, false]) (d := some 107) rfl (by kernel_rfl) (by kernel_rfl) (by kernel_rfl) (by kernel_rfl) (fun _ _ _ h => h) HF.out (by kernel_rfl) ?_ rfl rfl ?_ ?_
                rotate_left
                · intro w' hF; have f10 := hF.2.box.cell0; have f11 := hF.2.box.cell1; clear hF; go_simp; try rfl
                rotate_left
                · simp only [Act.put]; exact rfl
                refine Calm.one (i := 6) (l' := #[true, true, true, true, true, true, true, false, false, false, false]) (by kernel_rfl) rfl (by kernel_rfl) rfl fun K hK => ?_
                go_simp
                refine (rof_any 9223372036854775807 _ (by decide) (by decide)).mono ?_
                rintro e u32 ⟨v32, rfl, n, hb⟩
                try replace BX := hide (BX.out.step hb)
                have T2 := hide n
                clear n
                have HF' := hide (And.intro (HF.out.1.trans ((hb).mono HF.out.1.size)) (HF.out.2.step (hb)))
                refine hK _ _ (fun _ => HF'.out) ?_
                clear hK K HF hb
                have HF := hide HF'.out
                clear HF'
                refine Calm.one (i := 7) (l' := #[true, true, true, true, true, true, true, true, false, false, false]) (by kernel_rfl) rfl (by kernel_rfl) rfl fun K hK => ?_
                go_simp
                refine (rcmp_any _ _ (sg b0 (val xs)) 9223372036854775807 _ HF.out.2.int T2.out).mono ?_
                rintro e u33 ⟨he, hb⟩
                rw [C2.out] at he
                subst he
                try replace BX := hide (BX.out.step hb)
                clear T2
                have HF' := hide (And.intro (HF.out.1.trans ((hb).mono HF.out.1.size)) (HF.out.2.step (hb)))
                refine hK _ _ (fun _ => HF'.out) ?_
                clear hK K HF hb
                have HF := hide HF'.out
                clear HF'
                refine Calm.take (i := 8) (v := ?_) (a' := ?_) (l' := #[true, true, true, true, true, true, true, true, true, false, false]) (d := some 110) rfl (by kernel_rfl) (by kernel_rfl) (by kernel_rfl) (by kernel_rfl) (fun _ _ _ h => h) HF.out (by kernel_rfl) ?_ rfl rfl ?_ ?_
                rotate_left
                · intro w' hF; clear hF; go_simp; try rfl
                rotate_left
                · simp only [Act.put]; exact rfl
                refine Calm.take (i := 9) (v := ?_) (a' := ?_) (l' := #[true, true, true, true, true, true, true, true, true, true, false]) (d := some 111) rfl (by kernel_rfl) (by kernel_rfl) (by kernel_rfl) (by kernel_rfl) (fun _ _ _ h => h) HF.out rfl ?_ rfl rfl ?_ ?_
                rotate_left
                · intro w' hF; clear hF; go_simp; try rfl
                rotate_left
                · simp only [Act.put]; exact rfl
                refine Calm.take (i := 10) (v := ?_) (a' := ?_) (l' := #[true, true, true, true, true, true, true, true, true, true, true]) (d := some 16) rfl (by kernel_rfl) (by kernel_rfl) (by kernel_rfl) (by kernel_rfl) (fun _ _ _ h => h) HF.out rfl ?_ rfl rfl ?_ ?_
                rotate_left
                · intro w' hF; clear hF; go_simp; try rfl
                rotate_left
                · simp only [Act.put]; exact rfl
                refine Calm.done (by kernel_rfl) ?_
                replace HB := hide HF.out.1
                replace VP := hide HF.out.2
                clear HF
                go_wp2_with fail
                refine wp_calm (fun w' => Below w.heap.size w w' ∧ RVar w' (gx + 1) sp mp lp kp (sg b0 (val xs))) (fun _ => true) 29 #[false, false, false, false, false, false, false, false, false, false, false, false, false, false, false, false, false, false, false, false, false, false, false, false, false, false, false, false, false] (by kernel_rfl) rfl rfl ?_
                have HF := hide (And.intro (HB.out.drew) (VP.out.drew))
                generalize u33.drew = u33d at HF ⊢
                refine Calm.take (i := 0) (v := ?_) (a' := ?_) (l' := #[true, false, false, false, false, false, false, false, false, false, false, false, false, false, false, false, false, false, false, false, false, false, false, false, false, false, false, false, false]) (d := some 112) rfl (by kernel_rfl) (by kernel_rfl) (by kernel_rfl) (by kernel_rfl) (fun _ _ _ h => h) HF.out rfl ?_ rfl rfl ?_ ?_
                rotate_left
                · intro w' hF; clear hF; go_simp; try rfl
                rotate_left
                · simp only [Act.put]; exact rfl
                refine Calm.take (i := 1) (v := ?_) (a' := ?_) (l' := #[true, true, false, false, false, false, false, false, false, false, false, false, false, false, false, false, false, false, false, false, false, false, false, false, false, false, false, false, false]) (d := some 113) rfl (by kernel_rfl) (by kernel_rfl) (by kernel_rfl) (by kernel_rfl) (fun _ _ _ h => h) HF.out rfl ?_ rfl rfl ?_ ?_
                rotate_left
                · intro w' hF; clear hF; go_simp; try rfl
                rotate_left
                · simp only [Act.put]; exact rfl
                refine Calm.take (i := 2) (v := ?_) (a' := ?_) (l' := #[true, true, true, false, false, false, false, false, false, false, false, false, false, false, false, false, false, false, false, false, false, false, false, false, false, false, false, false, false]) (d := some 114) rfl (by kernel_rfl) (by kernel_rfl) (by kernel_rfl) (by kernel_rfl) (fun _ _ _ h => h) HF.out rfl ?_ rfl rfl ?_ ?_
                rotate_left
                · intro w' hF; clear hF; go_simp; try rfl
                rotate_left
                · simp only [Act.put]; exact rfl
                refine Calm.take (i := 3) (v := ?_) (a' := ?_) (l' := #[true, true, true, true, false, false, false, false, false, false, false, false, false, false, false, false, false, false, false, false, false, false, false, false, false, false, false, false, false]) (d := some 115) rfl (by kernel_rfl) (by kernel_rfl) (by kernel_rfl) (by kernel_rfl) (fun _ _ _ h => h) HF.out rfl ?_ rfl rfl ?_ ?_
                rotate_left
                · intro w' hF; clear hF; go_simp; try rfl
                rotate_left
                · simp only [Act.put]; exact rfl
                refine Calm.take (i := 4) (v := ?_) (a' := ?_) (l' := #[true, true, true, true, true, false, false, false, false, false, false, false, false, false, false, false, false, false, false, false, false, false, false, false, false, false, false, false, false]) (d := some 116) rfl (by kernel_rfl) (by kernel_rfl) (by kernel_rfl) (by kernel_rfl) (fun _ _ _ h => h) HF.out (by kernel_rfl) ?_ rfl rfl ?_ ?_
                rotate_left
                · intro w' hF; clear hF; go_simp; try rfl
                rotate_left
                · simp only [Act.put]; exact rfl
                refine Calm.take (i := 5) (v := ?_) (a' := ?_) (l' := #[true, true, true, true, true, true, false, false, false, false, false, false, false, false, false, false, false, false, false, false, false, false, false, false, false, false, false, false, false]) (d := some 117) rfl (by kernel_rfl) (by kernel_rfl) (by kernel_rfl) (by kernel_rfl) (fun _ _ _ h => h) HF.out rfl ?_ rfl rfl ?_ ?_
                rotate_left
                · intro w' hF; clear hF; go_simp; try rfl
                rotate_left
                · simp only [Act.put]; exact rfl
                refine Calm.take (i := 6) (v := ?_) (a' := ?_) (l' := #[true, true, true, true, true, true, true, false, false, false, false, false, false, false, false, false, false, false, false, false, false, false, false, false, false, false, false, false, false]) (d := some 118) rfl (by kernel_rfl) (by kernel_rfl) (by kernel_rfl) (by kernel_rfl) (fun _ _ _ h => h) HF.out rfl ?_ rfl rfl ?_ ?_
                rotate_left
                · intro w' hF; clear hF; go_simp; try rfl
                rotate_left
                · simp only [Act.put]; exact rfl
                refine Calm.take (i := 7) (v := ?_) (a' := ?_) (l' := #[true, true, true, true, true, true, true, true, false, false, false, false, false, false, false, false, false, false, false, false, false, false, false, false, false, false, false, false, false]) (d := some 119) rfl (by kernel_rfl) (by kernel_rfl) (by kernel_rfl) (by kernel_rfl) (fun _ _ _ h => h) HF.out (by kernel_rfl) ?_ rfl rfl ?_ ?_
                rotate_left
                · intro w' hF; clear hF; go_simp; try rfl
                rotate_left
                · simp only [Act.put]; exact rfl
                refine Calm.take (i := 8) (v := ?_) (a' := ?_) (l' := #[true, true, true, true, true, true, true, true, true, false, false, false, false, false, false, false, false, false, false, false, false, false, false, false, false, false, false, false, false]) (d := some 120) rfl (by kernel_rfl) (by kernel_rfl) (by kernel_rfl) (by kernel_rfl) (fun _ _ _ h => h) HF.out (by kernel_rfl) ?_ rfl rfl ?_ ?_
                rotate_left
                · intro w' hF; clear hF; go_simp; try rfl
                rotate_left
                · simp only [Act.put]; exact rfl
                refine Calm.take (i := 9) (v := ?_) (a' := ?_) (l' := #[true, true, true, true, true, true, true, true, true, true, false, false, false, false, false, false, false, false, false, false, false, false, false, false, false, false, false, false, false]) (d := some 121) rfl (by kernel_rfl) (by kernel_rfl) (by kernel_rfl) (by kernel_rfl) (fun _ _ _ h => h) HF.out (by kernel_rfl) ?_ rfl rfl ?_ ?_
                rotate_left
                · intro w' hF; clear hF; go_simp; try rfl
                rotate_left
                · simp only [Act.put]; exact rfl
                refine Calm.take (i := 10) (v := ?_) (a' := ?_) (l' := #[true, true, true, true, true, true, true, true, true, true, true, false, false, false, false, false, false, false, false, false, false, false, false, false, false, false, false, false, false]) (d := some 122) rfl (by kernel_rfl) (by kernel_rfl) (by kernel_rfl) (by kernel_rfl) (fun _ _ _ h => h) HF.out rfl ?_ rfl rfl ?_ ?_
                rotate_left
                · intro w' hF; clear hF; go_simp; try rfl
                rotate_left
                · simp only [Act.put]; exact rfl
                refine Calm.take (i := 11) (v := ?_) (a' := ?_) (l' := #[true, true, true, true, true, true, true, true, true, true, true, true, false, false, false, false, false, false, false, false, false, false, false, false, false, false, false, false, false]) (d := some 123) rfl (by kernel_rfl) (by kernel_rfl) (by kernel_rfl) (by kernel_rfl) (fun _ _ _ h => h) HF.out rfl ?_ rfl rfl ?_ ?_
                rotate_left
                · intro w' hF; clear hF; go_simp; try rfl
                rotate_left
                · simp only [Act.put]; exact rfl
                refine Calm.take (i := 12) (v := ?_) (a' := ?_) (l' := #[true, true, true, true, true, true, true, true, true, true, true, true, true, false, false, false, false, false, false, false, false, false, false, false, false, false, false, false, false]) (d := some 124) rfl (by kernel_rfl) (by kernel_rfl) (by kernel_rfl) (by kernel_rfl) (fun _ _ _ h => h) HF.out (by kernel_rfl) ?_ rfl rfl ?_ ?_
                rotate_left
                · intro w' hF; clear hF; go_simp; try rfl
                rotate_left
                · simp only [Act.put]; exact rfl
                refine Calm.take (i := 13) (v := ?_) (a' := ?_) (l' := #[true, true, true, true, true, true, true, true, true, true, true, true, true, true, false, false, false, false, false, false, false, false, false, false, false, false, false, false, false]) (d := some 125) rfl (by kernel_rfl) (by kernel_rfl) (by kernel_rfl) (by kernel_rfl) (fun _ _ _ h => h) HF.out (by kernel_rfl) ?_ rfl rfl ?_ ?_
                rotate_left
                · intro w' hF; clear hF; go_simp; try rfl
                rotate_left
                · simp only [Act.put]; exact rfl
                refine Calm.take (i := 14) (v := ?_) (a' := ?_) (l' := #[true, true, true, true, true, true, true, true, true, true, true, true, true, true, true, false, false, false, false, false, false, false, false, false, false, false, false, false, false]) (d := some 126) rfl (by kernel_rfl) (by kernel_rfl) (by kernel_rfl) (by kernel_rfl) (fun _ _ _ h => h) HF.out (by kernel_rfl) ?_ rfl rfl ?_ ?_
                rotate_left
                · intro w' hF; clear hF; go_simp; try rfl
                rotate_left
                · simp only [Act.put]; exact rfl
                refine Calm.take (i := 16) (v := ?_) (a' := ?_) (l' := #[true, true, true, true, true, true, true, true, true, true, true, true, true, true, true, false, true, false, false, false, false, false, false, false, false, false, false, false, false]) (d := some 128) rfl (by kernel_rfl) (by kernel_rfl) (by kernel_rfl) (by kernel_rfl) (fun _ _ _ h => h) HF.out (by kernel_rfl) ?_ rfl rfl ?_ ?_
                rotate_left
                · intro w' hF; have f10 := hF.2.box.cell0; have f11 := hF.2.box.cell1; clear hF; go_simp; try rfl
                rotate_left
                · simp only [Act.put]; exact rfl
                refine Calm.one (i := 15) (l' := #[true, true, true, true, true, true, true, true, true, true, true, true, true, true, true, true, true, false, false, false, false, false, false, false, false, false, false, false, false]) (by kernel_rfl) rfl (by kernel_rfl) rfl fun K hK => ?_
                go_simp
                refine (iof_any (sg b0 (val xs)) _ FT.out.1 (by have := FT.out.2; omega)).mono ?_
                rintro e u40 ⟨v40, rfl, n, hb⟩
                try replace BX := hide (BX.out.step hb)
                have T3 := hide n
                clear n
                have HF' := hide (And.intro (HF.out.1.trans ((hb).mono HF.out.1.size)) (HF.out.2.step (hb)))
                refine hK _ _ (fun _ => HF'.out) ?_
                clear hK K HF hb
                have HF := hide HF'.out
                clear HF'
                refine Calm.one (i := 17) (l' := #[true, true, true, true, true, true, true, true, true, true, true, true, true, true, true, true, true, true, false, false, false, false, false, false, false, false, false, false, false]) (by kernel_rfl) rfl (by kernel_rfl) rfl fun K hK => ?_
                go_simp
                refine (is_yes _ _ (sg b0 (val xs)) _ T3.out HF.out.2.int (SzI.len SX.out (by decide)) (Nat.le_trans (SzI.dlen SX.out (by decide)) (by decide))).mono ?_
                rintro e u41 ⟨rfl, hb⟩
                try replace BX := hide (BX.out.step hb)
                clear T3
                have HF' := hide (And.intro (HF.out.1.trans ((hb).mono HF.out.1.size)) (HF.out.2.step (hb)))
                refine hK _ _ (fun _ => HF'.out) ?_
                clear hK K HF hb
                have HF := hide HF'.out
                clear HF'
                refine Calm.take (i := 18) (v := ?_) (a' := ?_) (l' := #[true, true, true, true, true, true, true, true, true, true, true, true, true, true, true, true, true, true, true, false, false, false, false, false, false, false, false, false, false]) (d := some 130) rfl (by kernel_rfl) (by kernel_rfl) (by kernel_rfl) (by kernel_rfl) (fun _ _ _ h => h) HF.out (by kernel_rfl) ?_ rfl rfl ?_ ?_
                rotate_left
                · intro w' hF; clear hF; go_simp; try rfl
                rotate_left
                · simp only [Act.put]; exact rfl
                refine Calm.take (i := 19) (v := ?_) (a' := ?_) (l' := #[true, true, true, true, true, true, true, true, true, true, true, true, true, true, true, true, true, true, true, true, false, false, false, false, false, false, false, false, false]) (d := some 131) rfl (by kernel_rfl) (by kernel_rfl) (by kernel_rfl) (by kernel_rfl) (fun _ _ _ h => h) HF.out (by kernel_rfl) ?_ rfl rfl ?_ ?_
                rotate_left
                · intro w' hF; clear hF; go_simp; try rfl
                rotate_left
                · simp only [Act.put]; exact rfl
                refine Calm.skip (i := 20) (a' := ?_) (l' := #[true, true, true, true, true, true, true, true, true, true, true, true, true, true, true, true, true, true, true, true, true, false, false, false, false, false, false, false, false]) (d := some 132) rfl (by kernel_rfl) (by kernel_rfl) (by kernel_rfl) (by kernel_rfl) (fun _ _ _ h => h) HF.out (by kernel_rfl) rfl rfl ?_ ?_
                rotate_left
                · simp only [Act.put]; exact rfl
                refine Calm.skip (i := 21) (a' := ?_) (l' := #[true, true, true, true, true, true, true, true, true, true, true, true, true, true, true, true, true, true, true, true, true, true, false, false, false, false, false, false, false]) (d := some 133) rfl (by kernel_rfl) (by kernel_rfl) (by kernel_rfl) (by kernel_rfl) (fun _ _ _ h => h) HF.out (by kernel_rfl) rfl rfl ?_ ?_
                rotate_left
                · simp only [Act.put]; exact rfl
                refine Calm.skip (i := 22) (a' := ?_) (l' := #[true, true, true, true, true, true, true, true, true, true, true, true, true, true, true, true, true, true, true, true, true, true, true, false, false, false, false, false, false]) (d := some 134) rfl (by kernel_rfl) (by kernel_rfl) (by kernel_rfl) (by kernel_rfl) (fun _ _ _ h => h) HF.out (by kernel_rfl) rfl rfl ?_ ?_
                rotate_left
                · simp only [Act.put]; exact rfl
                refine Calm.skip (i := 23) (a' := ?_) (l' := #[true, true, true, true, true, true, true, true, true, true, true, true, true, true, true, true, true, true, true, true, true, true, true, true, false, false, false, false, false]) (d := some 135) rfl (by kernel_rfl) (by kernel_rfl) (by kernel_rfl) (by kernel_rfl) (fun _ _ _ h => h) HF.out (by kernel_rfl) rfl rfl ?_ ?_
                rotate_left
                · simp only [Act.put]; exact rfl
                refine Calm.skip (i := 24) (a' := ?_) (l' := #[true, true, true, true, true, true, true, true, true, true, true, true, true, true, true, true, true, true, true, true, true, true, true, true, true, false, false, false, false]) (d := some 136) rfl (by kernel_rfl) (by kernel_rfl) (by kernel_rfl) (by kernel_rfl) (fun _ _ _ h => h) HF.out (by kernel_rfl) rfl rfl ?_ ?_
                rotate_left
                · simp only [Act.put]; exact rfl
                refine Calm.skip (i := 25) (a' := ?_) (l' := #[true, true, true, true, true, true, true, true, true, true, true, true, true, true, true, true, true, true, true, true, true, true, true, true, true, true, false, false, false]) (d := some 137) rfl (by kernel_rfl) (by kernel_rfl) (by kernel_rfl) (by kernel_rfl) (fun _ _ _ h => h) HF.out (by kernel_rfl) rfl rfl ?_ ?_
                rotate_left
                · simp only [Act.put]; exact rfl
                refine Calm.take (i := 26) (v := ?_) (a' := ?_) (l' := #[true, true, true, true, true, true, true, true, true, true, true, true, true, true, true, true, true, true, true, true, true, true, true, true, true, true, true, false, false]) (d := some 138) rfl (by kernel_rfl) (by kernel_rfl) (by kernel_rfl) (by kernel_rfl) (fun _ _ _ h => h) HF.out (by kernel_rfl) ?_ rfl rfl ?_ ?_
                rotate_left
                · intro w' hF; clear hF; go_simp; try rfl
                rotate_left
                · simp only [Act.put]; exact rfl
                refine Calm.take (i := 27) (v := ?_) (a' := ?_) (l' := #[true, true, true, true, true, true, true, true, true, true, true, true, true, true, true, true, true, true, true, true, true, true, true, true, true, true, true, true, false]) (d := some 139) rfl (by kernel_rfl) (by kernel_rfl) (by kernel_rfl) (by kernel_rfl) (fun _ _ _ h => h) HF.out rfl ?_ rfl rfl ?_ ?_
                rotate_left
                · intro w' hF; clear hF; go_simp; try rfl
                rotate_left
                · simp only [Act.put]; exact rfl
                refine Calm.take (i := 28) (v := ?_) (a' := ?_) (l' := #[true, true, true, true, true, true, true, true, true, true, true, true, true, true, true, true, true, true, true, true, true, true, true, true, true, true, true, true, true]) (d := some 4) rfl (by kernel_rfl) (by kernel_rfl) (by kernel_rfl) (by kernel_rfl) (fun _ _ _ h => h) HF.out rfl ?_ rfl rfl ?_ ?_
                rotate_left
                · intro w' hF; clear hF; go_simp; try rfl
                rotate_left
                · simp only [Act.put]; exact rfl
                refine Calm.done (by kernel_rfl) ?_
                refine (by assumption : ∀ (a : Act) (w : World), Code.wp Try.prog Code.ret _ a w → _) _ _ ?_
                refine wp_ret ?_
                refine bodyPost_ret (results_tmp rfl _ _ _) rfl ⟨?_, HF.out.1⟩
                exact congrArg Ending.returned (by kernel_rfl)
              · have C1 : Hid (cmpZ (sg b0 (val xs)) (-9223372036854775808) = 1) := hide (by unfold cmpZ; repeat' split <;> omega)
                have C2 : Hid (cmpZ (sg b0 (val xs)) 9223372036854775807 = 1) := hide (by unfold cmpZ; repeat' split <;> omega)
                rw [smallOf_no (by unfold Fits; omega)] at he
                subst he
                clear hq
                go_wp2_with fail
                refine wp_calm (fun w' => Below w.heap.size w w' ∧ RVar w' (gx + 1) sp mp lp kp (sg b0 (val xs))) (fun _ => true) 11 #[false, false, false, false, false, false, false, false, false, false, false] (by kernel_rfl) rfl rfl ?_
                have HF := hide (And.intro (HB.out.drew) (VP.out.drew))
                generalize w26.drew = w26d at HF ⊢
                refine Calm.take (i := 0) (v := ?_) (a' := ?_) (l' := #[true, false, false, false, false, false, false, false, false, false, false]) (d := some 102) rfl (by kernel_rfl) (by kernel_rfl) (by kernel_rfl) (by kernel_rfl) (fun _ _ _ h => h) HF.out rfl ?_ rfl rfl ?_ ?_
                rotate_left
                · intro w' hF; have f10 := hF.2.box.cell0; have f11 := hF.2.box.cell1; clear hF; go_simp; try rfl
                rotate_left
                · simp only [Act.put]; exact rfl
                refine Calm.one (i := 1) (l' := #[true, true, false, false, false, false, false, false, false, false, false]) (by kernel_rfl) rfl rfl rfl fun K hK => ?_
                go_simp
                refine (rof_any (-9223372036854775808) _ (by decide) (by decide)).mono ?_
                rintro e u30 ⟨v30, rfl, n, hb⟩
                try replace BX := hide (BX.out.step hb)
                have T1 := hide n
                clear n
                have HF' := hide (And.intro (HF.out.1.trans ((hb).mono HF.out.1.size)) (HF.out.2.step (hb)))
                refine hK _ _ (fun _ => HF'.out) ?_
                clear hK K HF hb
                have HF := hide HF'.out
                clear HF'
                refine Calm.one (i := 2) (l' := #[true, true, true, false, false, false, false, false, false, false, false]) (by kernel_rfl) rfl rfl rfl fun K hK => ?_
                go_simp
                refine (rcmp_any _ _ (sg b0 (val xs)) (-9223372036854775808) _ HF.out.2.int T1.out).mono ?_
                rintro e u31 ⟨he, hb⟩
                rw [C1.out] at he
                subst he
                try replace BX := hide (BX.out.step hb)
                clear T1
                have HF' := hide (And.intro (HF.out.1.trans ((hb).mono HF.out.1.size)) (HF.out.2.step (hb)))
                refine hK _ _ (fun _ => HF'.out) ?_
                clear hK K HF hb
                have HF := hide HF'.out
                clear HF'
                refine Calm.take (i := 3) (v := ?_) (a' := ?_) (l' := #[true, true, true, true, false, false, false, false, false, false, false]) (d := some 105) rfl (by kernel_rfl) (by kernel_rfl) (by kernel_rfl) (by kernel_rfl) (fun _ _ _ h => h) HF.out rfl ?_ rfl rfl ?_ ?_
                rotate_left
                · intro w' hF; clear hF; go_simp; try rfl
                rotate_left
                · simp only [Act.put]; exact rfl
                refine Calm.take (i := 4) (v := ?_) (a' := ?_) (l' := #[true, true, true, true, true, false, false, false, false, false, false]) (d := some 106) rfl (by kernel_rfl) (by kernel_rfl) (by kernel_rfl) (by kernel_rfl) (fun _ _ _ h => h) HF.out rfl ?_ rfl rfl ?_ ?_
                rotate_left
                · intro w' hF; clear hF; go_simp; try rfl
                rotate_left
                · simp only [Act.put]; exact rfl
                refine Calm.take (i := 5) (v := ?_) (a' := ?_) (l' := #[true, true, true, true, true, true, false, false, false, false, false]) (d := some 107) rfl (by kernel_rfl) (by kernel_rfl) (by kernel_rfl) (by kernel_rfl) (fun _ _ _ h => h) HF.out (by kernel_rfl) ?_ rfl rfl ?_ ?_
                rotate_left
                · intro w' hF; have f10 := hF.2.box.cell0; have f11 := hF.2.box.cell1; clear hF; go_simp; try rfl
                rotate_left
                · simp only [Act.put]; exact rfl
                refine Calm.one (i := 6) (l' := #[true, true, true, true, true, true, true, false, false, false, false]) (by kernel_rfl) rfl (by kernel_rfl) rfl fun K hK => ?_
                go_simp
                refine (rof_any 9223372036854775807 _ (by decide) (by decide)).mono ?_
                rintro e u32 ⟨v32, rfl, n, hb⟩
                try replace BX := hide (BX.out.step hb)
                have T2 := hide n
                clear n
                have HF' := hide (And.intro (HF.out.1.trans ((hb).mono HF.out.1.size)) (HF.out.2.step (hb)))
                refine hK _ _ (fun _ => HF'.out) ?_
                clear hK K HF hb
                have HF := hide HF'.out
                clear HF'
                refine Calm.one (i := 7) (l' := #[true, true, true, true, true, true, true, true, false, false, false]) (by kernel_rfl) rfl (by kernel_rfl) rfl fun K hK => ?_
                go_simp
                refine (rcmp_any _ _ (sg b0 (val xs)) 9223372036854775807 _ HF.out.2.int T2.out).mono ?_
                rintro e u33 ⟨he, hb⟩
                rw [C2.out] at he
                subst he
                try replace BX := hide (BX.out.step hb)
                clear T2
                have HF' := hide (And.intro (HF.out.1.trans ((hb).mono HF.out.1.size)) (HF.out.2.step (hb)))
                refine hK _ _ (fun _ => HF'.out) ?_
                clear hK K HF hb
                have HF := hide HF'.out
                clear HF'
                refine Calm.take (i := 8) (v := ?_) (a' := ?_) (l' := #[true, true, true, true, true, true, true, true, true, false, false]) (d := some 110) rfl (by kernel_rfl) (by kernel_rfl) (by kernel_rfl) (by kernel_rfl) (fun _ _ _ h => h) HF.out (by kernel_rfl) ?_ rfl rfl ?_ ?_
                rotate_left
                · intro w' hF; clear hF; go_simp; try rfl
                rotate_left
                · simp only [Act.put]; exact rfl
                refine Calm.take (i := 9) (v := ?_) (a' := ?_) (l' := #[true, true, true, true, true, true, true, true, true, true, false]) (d := some 111) rfl (by kernel_rfl) (by kernel_rfl) (by kernel_rfl) (by kernel_rfl) (fun _ _ _ h => h) HF.out rfl ?_ rfl rfl ?_ ?_
                rotate_left
                · intro w' hF; clear hF; go_simp; try rfl
                rotate_left
                · simp only [Act.put]; exact rfl
                refine Calm.take (i := 10) (v := ?_) (a' := ?_) (l' := #[true, true, true, true, true, true, true, true, true, true, true]) (d := some 16) rfl (by kernel_rfl) (by kernel_rfl) (by kernel_rfl) (by kernel_rfl) (fun _ _ _ h => h) HF.out rfl ?_ rfl rfl ?_ ?_
                rotate_left
                · intro w' hF; clear hF; go_simp; try rfl
                rotate_left
                · simp only [Act.put]; exact rfl
                refine Calm.done (by kernel_rfl) ?_
                replace HB := hide HF.out.1
                replace VP := hide HF.out.2
                clear HF
                go_wp2_with fail
                refine wp_calm (fun w' => Below w.heap.size w w' ∧ RVar w' (gx + 1) sp mp lp kp (sg b0 (val xs))) (fun _ => true) 29 #[false, false, false, false, false, false, false, false, false, false, false, false, false, false, false, false, false, false, false, false, false, false, false, false, false, false, false, false, false] (by kernel_rfl) rfl rfl ?_
                have HF := hide (And.intro (HB.out.drew) (VP.out.drew))
                generalize u33.drew = u33d at HF ⊢
                refine Calm.take (i := 0) (v := ?_) (a' := ?_) (l' := #[true, false, false, false, false, false, false, false, false, false, false, false, false, false, false, false, false, false, false, false, false, false, false, false, false, false, false, false, false]) (d := some 112) rfl (by kernel_rfl) (by kernel_rfl) (by kernel_rfl) (by kernel_rfl) (fun _ _ _ h => h) HF.out rfl ?_ rfl rfl ?_ ?_
                rotate_left
                · intro w' hF; clear hF; go_simp; try rfl
                rotate_left
                · simp only [Act.put]; exact rfl
                refine Calm.take (i := 1) (v := ?_) (a' := ?_) (l' := #[true, true, false, false, false, false, false, false, false, false, false, false, false, false, false, false, false, false, false, false, false, false, false, false, false, false, false, false, false]) (d := some 113) rfl (by kernel_rfl) (by kernel_rfl) (by kernel_rfl) (by kernel_rfl) (fun _ _ _ h => h) HF.out rfl ?_ rfl rfl ?_ ?_
                rotate_left
                · intro w' hF; clear hF; go_simp; try rfl
                rotate_left
                · simp only [Act.put]; exact rfl
                refine Calm.take (i := 2) (v := ?_) (a' := ?_) (l' := #[true, true, true, false, false, false, false, false, false, false, false, false, false, false, false, false, false, false, false, false, false, false, false, false, false, false, false, false, false]) (d := some 114) rfl (by kernel_rfl) (by kernel_rfl) (by kernel_rfl) (by kernel_rfl) (fun _ _ _ h => h) HF.out rfl ?_ rfl rfl ?_ ?_
                rotate_left
                · intro w' hF; clear hF; go_simp; try rfl
                rotate_left
                · simp only [Act.put]; exact rfl
                refine Calm.take (i := 3) (v := ?_) (a' := ?_) (l' := #[true, true, true, true, false, false, false, false, false, false, false, false, false, false, false, false, false, false, false, false, false, false, false, false, false, false, false, false, false]) (d := some 115) rfl (by kernel_rfl) (by kernel_rfl) (by kernel_rfl) (by kernel_rfl) (fun _ _ _ h => h) HF.out rfl ?_ rfl rfl ?_ ?_
                rotate_left
                · intro w' hF; clear hF; go_simp; try rfl
                rotate_left
                · simp only [Act.put]; exact rfl
                refine Calm.take (i := 4) (v := ?_) (a' := ?_) (l' := #[true, true, true, true, true, false, false, false, false, false, false, false, false, false, false, false, false, false, false, false, false, false, false, false, false, false, false, false, false]) (d := some 116) rfl (by kernel_rfl) (by kernel_rfl) (by kernel_rfl) (by kernel_rfl) (fun _ _ _ h => h) HF.out (by kernel_rfl) ?_ rfl rfl ?_ ?_
                rotate_left
                · intro w' hF; clear hF; go_simp; try rfl
                rotate_left
                · simp only [Act.put]; exact rfl
                refine Calm.take (i := 5) (v := ?_) (a' := ?_) (l' := #[true, true, true, true, true, true, false, false, false, false, false, false, false, false, false, false, false, false, false, false, false, false, false, false, false, false, false, false, false]) (d := some 117) rfl (by kernel_rfl) (by kernel_rfl) (by kernel_rfl) (by kernel_rfl) (fun _ _ _ h => h) HF.out rfl ?_ rfl rfl ?_ ?_
                rotate_left
                · intro w' hF; clear hF; go_simp; try rfl
                rotate_left
                · simp only [Act.put]; exact rfl
                refine Calm.take (i := 6) (v := ?_) (a' := ?_) (l' := #[true, true, true, true, true, true, true, false, false, false, false, false, false, false, false, false, false, false, false, false, false, false, false, false, false, false, false, false, false]) (d := some 118) rfl (by kernel_rfl) (by kernel_rfl) (by kernel_rfl) (by kernel_rfl) (fun _ _ _ h => h) HF.out rfl ?_ rfl rfl ?_ ?_
                rotate_left
                · intro w' hF; clear hF; go_simp; try rfl
                rotate_left
                · simp only [Act.put]; exact rfl
                refine Calm.take (i := 7) (v := ?_) (a' := ?_) (l' := #[true, true, true, true, true, true, true, true, false, false, false, false, false, false, false, false, false, false, false, false, false, false, false, false, false, false, false, false, false]) (d := some 119) rfl (by kernel_rfl) (by kernel_rfl) (by kernel_rfl) (by kernel_rfl) (fun _ _ _ h => h) HF.out (by kernel_rfl) ?_ rfl rfl ?_ ?_
                rotate_left
                · intro w' hF; clear hF; go_simp; try rfl
                rotate_left
                · simp only [Act.put]; exact rfl
                refine Calm.take (i := 8) (v := ?_) (a' := ?_) (l' := #[true, true, true, true, true, true, true, true, true, false, false, false, false, false, false, false, false, false, false, false, false, false, false, false, false, false, false, false, false]) (d := some 120) rfl (by kernel_rfl) (by kernel_rfl) (by kernel_rfl) (by kernel_rfl) (fun _ _ _ h => h) HF.out (by kernel_rfl) ?_ rfl rfl ?_ ?_
                rotate_left
                · intro w' hF; clear hF; go_simp; try rfl
                rotate_left
                · simp only [Act.put]; exact rfl
                refine Calm.take (i := 9) (v := ?_) (a' := ?_) (l' := #[true, true, true, true, true, true, true, true, true, true, false, false, false, false, false, false, false, false, false, false, false, false, false, false, false, false, false, false, false]) (d := some 121) rfl (by kernel_rfl) (by kernel_rfl) (by kernel_rfl) (by kernel_rfl) (fun _ _ _ h => h) HF.out (by kernel_rfl) ?_ rfl rfl ?_ ?_
                rotate_left
                · intro w' hF; clear hF; go_simp; try rfl
                rotate_left
                · simp only [Act.put]; exact rfl
                refine Calm.take (i := 10) (v := ?_) (a' := ?_) (l' := #[true, true, true, true, true, true, true, true, true, true, true, false, false, false, false, false, false, false, false, false, false, false, false, false, false, false, false, false, false]) (d := some 122) rfl (by kernel_rfl) (by kernel_rfl) (by kernel_rfl) (by kernel_rfl) (fun _ _ _ h => h) HF.out rfl ?_ rfl rfl ?_ ?_
                rotate_left
                · intro w' hF; clear hF; go_simp; try rfl
                rotate_left
                · simp only [Act.put]; exact rfl
                refine Calm.take (i := 11) (v := ?_) (a' := ?_) (l' := #[true, true, true, true, true, true, true, true, true, true, true, true, false, false, false, false, false, false, false, false, false, false, false, false, false, false, false, false, false]) (d := some 123) rfl (by kernel_rfl) (by kernel_rfl) (by kernel_rfl) (by kernel_rfl) (fun _ _ _ h => h) HF.out rfl ?_ rfl rfl ?_ ?_
                rotate_left
                · intro w' hF; clear hF; go_simp; try rfl
                rotate_left
                · simp only [Act.put]; exact rfl
                refine Calm.take (i := 12) (v := ?_) (a' := ?_) (l' := #[true, true, true, true, true, true, true, true, true, true, true, true, true, false, false, false, false, false, false, false, false, false, false, false, false, false, false, false, false]) (d := some 124) rfl (by kernel_rfl) (by kernel_rfl) (by kernel_rfl) (by kernel_rfl) (fun _ _ _ h => h) HF.out (by kernel_rfl) ?_ rfl rfl ?_ ?_
                rotate_left
                · intro w' hF; clear hF; go_simp; try rfl
                rotate_left
                · simp only [Act.put]; exact rfl
                refine Calm.take (i := 13) (v := ?_) (a' := ?_) (l' := #[true, true, true, true, true, true, true, true, true, true, true, true, true, true, false, false, false, false, false, false, false, false, false, false, false, false, false, false, false]) (d := some 125) rfl (by kernel_rfl) (by kernel_rfl) (by kernel_rfl) (by kernel_rfl) (fun _ _ _ h => h) HF.out (by kernel_rfl) ?_ rfl rfl ?_ ?_
                rotate_left
                · intro w' hF; clear hF; go_simp; try rfl
                rotate_left
                · simp only [Act.put]; exact rfl
                refine Calm.skip (i := 14) (a' := ?_) (l' := #[true, true, true, true, true, true, true, true, true, true, true, true, true, true, true, false, false, false, false, false, false, false, false, false, false, false, false, false, false]) (d := some 126) rfl (by kernel_rfl) (by kernel_rfl) (by kernel_rfl) (by kernel_rfl) (fun _ _ _ h => h) HF.out (by kernel_rfl) rfl rfl ?_ ?_
                rotate_left
                · simp only [Act.put]; exact rfl
                refine Calm.skip (i := 15) (a' := ?_) (l' := #[true, true, true, true, true, true, true, true, true, true, true, true, true, true, true, true, false, false, false, false, false, false, false, false, false, false, false, false, false]) (d := some 127) rfl (by kernel_rfl) (by kernel_rfl) (by kernel_rfl) (by kernel_rfl) (fun _ _ _ h => h) HF.out (by kernel_rfl) rfl rfl ?_ ?_
                rotate_left
                · simp only [Act.put]; exact rfl
                refine Calm.skip (i := 16) (a' := ?_) (l' := #[true, true, true, true, true, true, true, true, true, true, true, true, true, true, true, true, true, false, false, false, false, false, false, false, false, false, false, false, false]) (d := some 128) rfl (by kernel_rfl) (by kernel_rfl) (by kernel_rfl) (by kernel_rfl) (fun _ _ _ h => h) HF.out (by kernel_rfl) rfl rfl ?_ ?_
                rotate_left
                · simp only [Act.put]; exact rfl
                refine Calm.skip (i := 17) (a' := ?_) (l' := #[true, true, true, true, true, true, true, true, true, true, true, true, true, true, true, true, true, true, false, false, false, false, false, false, false, false, false, false, false]) (d := some 129) rfl (by kernel_rfl) (by kernel_rfl) (by kernel_rfl) (by kernel_rfl) (fun _ _ _ h => h) HF.out (by kernel_rfl) rfl rfl ?_ ?_
                rotate_left
                · simp only [Act.put]; exact rfl
                refine Calm.take (i := 18) (v := ?_) (a' := ?_) (l' := #[true, true, true, true, true, true, true, true, true, true, true, true, true, true, true, true, true, true, true, false, false, false, false, false, false, false, false, false, false]) (d := some 130) rfl (by kernel_rfl) (by kernel_rfl) (by kernel_rfl) (by kernel_rfl) (fun _ _ _ h => h) HF.out (by kernel_rfl) ?_ rfl rfl ?_ ?_
                rotate_left
                · intro w' hF; clear hF; go_simp; try rfl
                rotate_left
                · simp only [Act.put]; exact rfl
                refine Calm.take (i := 19) (v := ?_) (a' := ?_) (l' := #[true, true, true, true, true, true, true, true, true, true, true, true, true, true, true, true, true, true, true, true, false, false, false, false, false, false, false, false, false]) (d := some 131) rfl (by kernel_rfl) (by kernel_rfl) (by kernel_rfl) (by kernel_rfl) (fun _ _ _ h => h) HF.out (by kernel_rfl) ?_ rfl rfl ?_ ?_
                rotate_left
                · intro w' hF; clear hF; go_simp; try rfl
                rotate_left
                · simp only [Act.put]; exact rfl
                refine Calm.take (i := 20) (v := ?_) (a' := ?_) (l' := #[true, true, true, true, true, true, true, true, true, true, true, true, true, true, true, true, true, true, true, true, true, false, false, false, false, false, false, false, false]) (d := some 132) rfl (by kernel_rfl) (by kernel_rfl) (by kernel_rfl) (by kernel_rfl) (fun _ _ _ h => h) HF.out (by kernel_rfl) ?_ rfl rfl ?_ ?_
                rotate_left
                · intro w' hF; clear hF; go_simp; try rfl
                rotate_left
                · simp only [Act.put]; exact rfl
                refine Calm.take (i := 21) (v := ?_) (a' := ?_) (l' := #[true, true, true, true, true, true, true, true, true, true, true, true, true, true, true, true, true, true, true, true, true, true, false, false, false, false, false, false, false]) (d := some 133) rfl (by kernel_rfl) (by kernel_rfl) (by kernel_rfl) (by kernel_rfl) (fun _ _ _ h => h) HF.out (by kernel_rfl) ?_ rfl rfl ?_ ?_
                rotate_left
                · intro w' hF; clear hF; go_simp; try rfl
                rotate_left
                · simp only [Act.put]; exact rfl
                refine Calm.take (i := 22) (v := ?_) (a' := ?_) (l' := #[true, true, true, true, true, true, true, true, true, true, true, true, true, true, true, true, true, true, true, true, true, true, true, false, false, false, false, false, false]) (d := some 134) rfl (by kernel_rfl) (by kernel_rfl) (by kernel_rfl) (by kernel_rfl) (fun _ _ _ h => h) HF.out (by kernel_rfl) ?_ rfl rfl ?_ ?_
                rotate_left
                · intro w' hF; clear hF; go_simp; try rfl
                rotate_left
                · simp only [Act.put]; exact rfl
                refine Calm.take (i := 23) (v := ?_) (a' := ?_) (l' := #[true, true, true, true, true, true, true, true, true, true, true, true, true, true, true, true, true, true, true, true, true, true, true, true, false, false, false, false, false]) (d := some 135) rfl (by kernel_rfl) (by kernel_rfl) (by kernel_rfl) (by kernel_rfl) (fun _ _ _ h => h) HF.out (by kernel_rfl) ?_ rfl rfl ?_ ?_
                rotate_left
                · intro w' hF; clear hF; go_simp; try rfl
                rotate_left
                · simp only [Act.put]; exact rfl
                refine Calm.take (i := 24) (v := ?_) (a' := ?_) (l' := #[true, true, true, true, true, true, true, true, true, true, true, true, true, true, true, true, true, true, true, true, true, true, true, true, true, false, false, false, false]) (d := some 136) rfl (by kernel_rfl) (by kernel_rfl) (by kernel_rfl) (by kernel_rfl) (fun _ _ _ h => h) HF.out (by kernel_rfl) ?_ rfl rfl ?_ ?_
                rotate_left
                · intro w' hF; clear hF; go_simp; try rfl
                rotate_left
                · simp only [Act.put]; exact rfl
                refine Calm.take (i := 25) (v := ?_) (a' := ?_) (l' := #[true, true, true, true, true, true, true, true, true, true, true, true, true, true, true, true, true, true, true, true, true, true, true, true, true, true, false, false, false]) (d := some 137) rfl (by kernel_rfl) (by kernel_rfl) (by kernel_rfl) (by kernel_rfl) (fun _ _ _ h => h) HF.out (by kernel_rfl) ?_ rfl rfl ?_ ?_
                rotate_left
                · intro w' hF; clear hF; go_simp; try rfl
                rotate_left
                · simp only [Act.put]; exact rfl
                refine Calm.take (i := 26) (v := ?_) (a' := ?_) (l' := #[true, true, true, true, true, true, true, true, true, true, true, true, true, true, true, true, true, true, true, true, true, true, true, true, true, true, true, false, false]) (d := some 138) rfl (by kernel_rfl) (by kernel_rfl) (by kernel_rfl) (by kernel_rfl) (fun _ _ _ h => h) HF.out (by kernel_rfl) ?_ rfl rfl ?_ ?_
                rotate_left
                · intro w' hF; clear hF; go_simp; try rfl
                rotate_left
                · simp only [Act.put]; exact rfl
                refine Calm.take (i := 27) (v := ?_) (a' := ?_) (l' := #[true, true, true, true, true, true, true, true, true, true, true, true, true, true, true, true, true, true, true, true, true, true, true, true, true, true, true, true, false]) (d := some 139) rfl (by kernel_rfl) (by kernel_rfl) (by kernel_rfl) (by kernel_rfl) (fun _ _ _ h => h) HF.out rfl ?_ rfl rfl ?_ ?_
                rotate_left
                · intro w' hF; clear hF; go_simp; try rfl
                rotate_left
                · simp only [Act.put]; exact rfl
                refine Calm.take (i := 28) (v := ?_) (a' := ?_) (l' := #[true, true, true, true, true, true, true, true, true, true, true, true, true, true, true, true, true, true, true, true, true, true, true, true, true, true, true, true, true]) (d := some 4) rfl (by kernel_rfl) (by kernel_rfl) (by kernel_rfl) (by kernel_rfl) (fun _ _ _ h => h) HF.out rfl ?_ rfl rfl ?_ ?_
                rotate_left
                · intro w' hF; clear hF; go_simp; try rfl
                rotate_left
                · simp only [Act.put]; exact rfl
                refine Calm.done (by kernel_rfl) ?_
                refine (by assumption : ∀ (a : Act) (w : World), Code.wp Try.prog Code.ret _ a w → _) _ _ ?_
                refine wp_ret ?_
                refine bodyPost_ret (results_tmp rfl _ _ _) rfl ⟨?_, HF.out.1⟩
                exact congrArg Ending.returned (by kernel_rfl)
end Go.Proofs.Ytpbfbjipdacbkab
