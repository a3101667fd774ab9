/- The document's fraction: its struct. -/
import Derived.Test.YtgkibmigbjjnnaaR2DM
import Derived.Deep.Cut
import Derived.RegionTactic
import Derived.Test.YtgkibmigbjjnnaaCalm
import Derived.Test.YtgkibmigbjjnnaaRt
import Derived.Test.YtgkibmigbjjnnaaR2Law
namespace Go.Proofs.Ytgkibmigbjjnnaa
open Go.RowKit

theorem ret_rover {fn : Func} {R : Ending → World → Prop} {a : Act} {w : World} {p u : Tmp} (h : fn.results = #[.cell p 57, .tmp u]) (g : Nat) (x y : Value)
    (hp : a.tmps.getD p undef = .pointer (some ⟨g, 0, none⟩)) (hg : Box2 w g 57 x y) (hd : a.defers = []) (hR : R (.returned (.tuple #[.agg #[x, y], a.tmps.getD u undef])) w) : bodyPost Try.prog fn R .ret a w := by
  refine bodyPost_ret ?_ hd hR
  have hp' : a.tmps[p]?.getD undef = .pointer (some ⟨g, 0, none⟩) := by simpa using hp
  simp [results, h, hp', asAddr, run_loadVar_row w g 57 57 #[x, y] (0, 0) _ hg Try.underlying57 rfl Try.infoRef]
theorem rint_zero (w : World) : RInt w (.agg #[.bool false, .slice none 0 0]) 0 := ⟨false, 0, none, 0, rfl, Nums.nil_mk _ _ _ (Nat.zero_le _), rfl, fun _ => rfl⟩
theorem RInt.len {w : World} {s : Bool} {m : Option Addr} {n c : Nat} {z : Int} (h : RInt w (.agg #[.bool s, .slice m n c]) z) : (z = 0 → n = 0) ∧ (z ≠ 0 → 0 < n) ∧ c ≤ maxLen ∧ n ≤ c := by
  obtain ⟨b, k, a, c', he, hn, rfl, h0⟩ := h
  simp only [Value.agg.injEq, Array.mk.injEq, List.cons.injEq, Value.bool.injEq, Value.slice.injEq, and_true] at he
  obtain ⟨rfl, rfl, rfl, rfl⟩ := he
  obtain ⟨_, a', c'', he, h1, h2, _⟩ := hn
  simp only [Value.slice.injEq] at he
  obtain ⟨_, _, rfl⟩ := he
  refine ⟨fun h => ?_, fun h => ?_, h2, h1⟩
  · have : k = 0 := by have := congrArg Int.natAbs h; rw [sg_abs] at this; simpa using this
    rw [this]; rfl
  · rcases Nat.eq_zero_or_pos k with e | e
    · rw [e, sg_zero] at h; exact absurd rfl h
    · rw [D.lim_pos e]; simp

/-- what Over answers -/
def ROverP (x y : Int) (w : World) (e : Ending) (w' : World) : Prop := ∃ v z b, e = .returned (.tuple #[v, .bool b]) ∧ RInt w' v z ∧ ((x % y ≠ 0 ∧ z = 0 ∧ b = false) ∨ (x % y = 0 ∧ z = x / y ∧ b = true)) ∧ Below w.heap.size w w'

set_option maxRecDepth 100000 in
set_option maxHeartbeats 4000000 in
theorem rover_any (v1 v2 : Value) (x y : Int) (w : World) (h1 : RInt w v1 x) (h2 : RInt w v2 y) (l1 : (D.lim x.natAbs).length ≤ 10000000) (l2 : (D.lim y.natAbs).length ≤ 10000000) (hy : y ≠ 0) :
    Calls Try.prog 54 #[v1, v2] w fun e w' => ROverP x y w e w' := by
  obtain ⟨s1, a1, L1, c1, rfl, i1⟩ := h1.cells
  obtain ⟨s2, a2, L2, c2, rfl, i2⟩ := h2.cells
  have HE := hide (nboxes3 57 w (.bool s1) (.slice a1 L1 c1) (.bool s2) (.slice a2 L2 c2) (.bool false) (.slice none 0 0))
  have I1 := hide (i1.below HE.out.2.2.2)
  have I2 := hide (i2.below HE.out.2.2.2)
  have HB := hide HE.out.2.2.2
  have P2 := hide HE.out.2.2.1
  clear h1 h2 i1 i2 HE
  go_enter Try.func54, Try.ntmps54
  go_wp2_with fail
  refine (rdm_any _ _ x y _ I1.out I2.out l1 l2 hy).mono ?_
  rintro e w1 ⟨q, r, rfl, nq, nr, hb⟩
  obtain ⟨sq, mq, kq, cq, rfl, nq⟩ := nq.cells
  obtain ⟨sr, mr, kr, cr, rfl, nr⟩ := nr.cells
  replace HB := hide (HB.out.trans (hb.mono HB.out.size))
  replace P2 := hide (P2.out.step hb)
  have hal1 := below_alloc w1 (.cells #[.bool sq, .slice mq kq cq] 57)
  have hal2 := below_alloc (w1.alloc (.cells #[.bool sq, .slice mq kq cq] 57)) (.cells #[.bool sr, .slice mr kr cr] 57)
  have hal := hal1.trans (hal2.mono (by rw [World.size_alloc]; omega))
  have LT := hide P2.out.lt
  have PQ := (Box2.new w1 57 (.bool sq) (.slice mq kq cq)).step hal2
  have PR := Box2.new (w1.alloc (.cells #[.bool sq, .slice mq kq cq] 57)) 57 (.bool sr) (.slice mr kr cr)
  rw [World.size_alloc] at PR
  replace HB := hide (HB.out.trans (hal.mono HB.out.size))
  replace P2 := hide (P2.out.step hal)
  have IQ := hide (nq.below hal)
  have HLR := hide nr.len
  replace PQ := hide PQ
  replace PR := hide PR
  clear hb nq nr hal hal1 hal2 I1 I2
  go_upto_region 2 with fail
  generalize (w1.alloc (.cells #[.bool sq, .slice mq kq cq] 57)).alloc (.cells #[.bool sr, .slice mr kr cr] 57) = w2 at *
  generalize w1.heap.size = gq at *
  have hc0 := P2.out.cell0
  have hc1 := P2.out.cell1
  have hf0 := P2.out.free 0
  have hf1 := P2.out.free 1
  have r1 := PR.out.cell1
  have hcr := HLR.out.2.2.1
  have hkr := HLR.out.2.2.2
  unfold maxLen at hcr
  by_cases hz : x % y = 0
  · have HZ := hide hz
    have hk0 := HLR.out.1 hz
    subst hk0
    have q0 := PQ.out.cell0
    have q1 := PQ.out.cell1
    clear hz
    go_wp2
    refine ret_rover rfl (w.heap.size + 1 + 1) _ _ rfl (P2.out.put _ _) rfl ?_
    unfold ROverP
    exact ⟨_, _, _, rfl, IQ.out.keep (P2.out.keeps (by simp) (by simp) _ _), .inr ⟨HZ.out, rfl, rfl⟩, below_put HB.out (by omega) _ _⟩
  · have HZ := hide hz
    have hkp := HLR.out.2.1 hz
    clear hz
    go_wp2
    refine ret_rover rfl (w.heap.size + 1 + 1) _ _ rfl (P2.out.put _ _) rfl ?_
    unfold ROverP
    exact ⟨_, _, _, rfl, rint_zero _, .inl ⟨HZ.out, rfl, rfl⟩, below_put HB.out (by omega) _ _⟩
end Go.Proofs.Ytgkibmigbjjnnaa

namespace Go.Proofs.Ytgkibmigbjjnnaa
open Go.RowKit

/-- the number whose digits lie over a slice -/
def dnumOf (w : World) : Value → Nat
  | .slice (some a) n _ => D.val ((List.range n).map fun i => match w.cell? ⟨a.block, a.off + i, none⟩ with
    | some (.int _ z) => z.toNat
    | _ => 0)
  | _ => 0
theorem Nums.dnumOf {w : World} {v : Value} {xs : List Nat} (h : Nums w v xs) : dnumOf w v = D.val xs := by
  rcases h.cases with ⟨rfl, a, cap, rfl, _⟩ | ⟨hpos, b, off, cap, rfl, hl, hm, hb, hc⟩
  · cases a <;> rfl
  · show D.val ((List.range xs.length).map _) = D.val xs
    congr 1
    apply List.ext_getElem (by simp)
    intro i h1 h2
    simp only [List.getElem_map, List.getElem_range]
    rw [hc i h2]
    simp [lm_get _ _ h2]
/-- the number that a variable of the document's holds, without its sign -/
def dnumAt (w : World) (g : Nat) : Nat := dnumOf w ((w.cell? ⟨g, 1, none⟩).getD undef)
theorem dnumAt_eq {w : World} {g : Nat} {s : Bool} {m : Option Addr} {n c k : Nat} (h : Box2 w g 57 (.bool s) (.slice m n c)) (i : RInt w (.agg #[.bool s, .slice m n c]) (k : Int)) : dnumAt w g = k := by
  unfold dnumAt
  rw [h.cell1]
  obtain ⟨b, j, a, c', he, hn, hz, h0⟩ := i
  simp only [Value.agg.injEq, Array.mk.injEq, List.cons.injEq, Value.bool.injEq, Value.slice.injEq, and_true] at he
  obtain ⟨rfl, rfl, rfl, rfl⟩ := he
  rw [Option.getD_some, hn.dnumOf, D.val_lim]
  have := congrArg Int.natAbs hz
  rw [sg_abs] at this
  simpa using this.symm
set_option maxRecDepth 100000 in
set_option maxHeartbeats 8000000 in
theorem rgcd_any (v1 v2 : Value) (x y : Int) (w : World) (h1 : RInt w v1 x) (h2 : RInt w v2 y) (l1 : (D.lim x.natAbs).length ≤ 10000000) (l2 : (D.lim y.natAbs).length ≤ 10000000) :
    Calls Try.prog 55 #[v1, v2] w fun e w' => ∃ v, e = .returned v ∧ RInt w' v (Int.gcd x y : Int) ∧ Below w.heap.size w w' := by
  obtain ⟨s1, a1, L1, c1, rfl, i1⟩ := h1.cells
  obtain ⟨s2, a2, L2, c2, rfl, i2⟩ := h2.cells
  have HE := hide (nboxes3 57 w (.bool s1) (.slice a1 L1 c1) (.bool s2) (.slice a2 L2 c2) (.bool false) (.slice none 0 0))
  have I1 := hide (i1.below HE.out.2.2.2)
  have I2 := hide (i2.below HE.out.2.2.2)
  have HB := hide HE.out.2.2.2
  have P0 := hide HE.out.1
  have P1 := hide HE.out.2.1
  have P2 := hide HE.out.2.2.1
  clear h1 h2 i1 i2 HE
  go_enter Try.func55, Try.ntmps55
  go_wp2_with fail
  generalize ((w.alloc (.cells #[.bool s1, .slice a1 L1 c1] 57)).alloc (.cells #[.bool s2, .slice a2 L2 c2] 57)).alloc (.cells #[.bool false, .slice none 0 0] 57) = w0 at *
  go_cut [5, 6] from 9 (fun pt0 pt1 wx => ∃ gq sa ma la ka gr sb mb lb kb, pt0 = .pointer (some ⟨gq, 0, none⟩) ∧ w0.heap.size ≤ gq ∧ Box2 wx gq 57 (.bool sa) (.slice ma la ka) ∧ RInt wx (.agg #[.bool sa, .slice ma la ka]) (x.natAbs : Int) ∧ pt1 = .pointer (some ⟨gr, 0, none⟩) ∧ w0.heap.size ≤ gr ∧ Box2 wx gr 57 (.bool sb) (.slice mb lb kb) ∧ RInt wx (.agg #[.bool sb, .slice mb lb kb]) (y.natAbs : Int) ∧ gq ≠ gr ∧ Below w0.heap.size w0 wx)
  case first =>
    refine wp_facts (fun L T wq => Below w0.heap.size w0 wq ∧ T 2 = .pointer (some ⟨w.heap.size, 0, none⟩) ∧ T 3 = .pointer (some ⟨(w.heap.size + 1), 0, none⟩) ∧ (L 0 = true → T 9 = .agg #[.bool s1, .slice a1 L1 c1]) ∧ (L 2 = true → T 11 = .agg #[.bool s2, .slice a2 L2 c2]) ∧ (L 1 = true → RInt wq (T 10) (x.natAbs : Int)) ∧ (L 3 = true → RInt wq (T 12) (y.natAbs : Int)) ∧ (L 4 = true → PS w0.heap.size wq (T 5)) ∧ (L 4 = true → L 6 = false → PB w0.heap.size wq 57 (T 5) [.bool false, .slice none 0 0]) ∧ (L 5 = true → PS w0.heap.size wq (T 6)) ∧ (L 5 = true → L 7 = false → PB w0.heap.size wq 57 (T 6) [.bool false, .slice none 0 0]) ∧ (L 4 = true → L 5 = true → T 5 ≠ T 6) ∧ (L 6 = true → PV w0.heap.size wq 57 (T 5) (T 10)) ∧ (L 7 = true → PV w0.heap.size wq 57 (T 6) (T 12))) 26 [5, 6, 9, 10, 11, 12] [0, 1, 2, 3, 4, 5, 6, 7] (by kernel_rfl) (by kernel_rfl) (by kernel_rfl) (by kernel_rfl) ?_ ?_ ?_
    · exact ⟨(Below.refl w0.heap.size w0).drew, rfl, rfl, no_yet, no_yet, no_yet, no_yet, no_yet, no_yet, no_yet, no_yet, no_yet, no_yet, no_yet⟩
    · intro i hi
      match i, hi with
      | 0, _ =>
        refine StepAt.of (need := []) (later := []) (k := 6) (d := some 9) rfl rfl (by kernel_rfl) (by kernel_rfl) ?_
        intro L T wq ev a he hL hN hM hJ next hnext
        have e2 := (he.tmp 2).trans hJ.2.1
        have hcl0 := ((P0.out).step hJ.1).cell0
        have hcl1 := ((P0.out).step hJ.1).cell1
        go_simp
        exact hnext _ _ ⟨hJ.1, hJ.2.1, hJ.2.2.1, fun _ => rfl, hJ.2.2.2.2.1, hJ.2.2.2.2.2.1, hJ.2.2.2.2.2.2.1, hJ.2.2.2.2.2.2.2.1, hJ.2.2.2.2.2.2.2.2.1, hJ.2.2.2.2.2.2.2.2.2.1, hJ.2.2.2.2.2.2.2.2.2.2.1, hJ.2.2.2.2.2.2.2.2.2.2.2.1, hJ.2.2.2.2.2.2.2.2.2.2.2.2.1, hJ.2.2.2.2.2.2.2.2.2.2.2.2.2⟩
      | 1, _ =>
        refine StepAt.of (need := [0]) (later := [6]) (k := 6) (d := some 10) rfl rfl (by kernel_rfl) (by kernel_rfl) ?_
        intro L T wq ev a he hL hN hM hJ next hnext
        have e9 := (he.tmp 9).trans (hJ.2.2.2.1 (hN.1))
        have ef := he.func
        go_simp
        refine (rabs_any _ x _ (I1.out.below hJ.1)).mono ?_
        rintro e wq' ⟨v, rfl, i, hb⟩
        exact hnext _ _ ⟨hJ.1.trans ((hb).mono hJ.1.size), hJ.2.1, hJ.2.2.1, hJ.2.2.2.1, hJ.2.2.2.2.1, fun _ => i, fun h => (hJ.2.2.2.2.2.2.1 h).below (hb), fun h => (hJ.2.2.2.2.2.2.2.1 h).step (hb), fun h h' => (hJ.2.2.2.2.2.2.2.2.1 h h').step (hb), fun h => (hJ.2.2.2.2.2.2.2.2.2.1 h).step (hb), fun h h' => (hJ.2.2.2.2.2.2.2.2.2.2.1 h h').step (hb), hJ.2.2.2.2.2.2.2.2.2.2.2.1, fun h => clash (hM.1) h, fun h => (hJ.2.2.2.2.2.2.2.2.2.2.2.2.2 h).step (hb)⟩
      | 2, _ =>
        refine StepAt.of (need := []) (later := []) (k := 6) (d := some 11) rfl rfl (by kernel_rfl) (by kernel_rfl) ?_
        intro L T wq ev a he hL hN hM hJ next hnext
        have e3 := (he.tmp 3).trans hJ.2.2.1
        have hcl0 := ((P1.out).step hJ.1).cell0
        have hcl1 := ((P1.out).step hJ.1).cell1
        go_simp
        exact hnext _ _ ⟨hJ.1, hJ.2.1, hJ.2.2.1, hJ.2.2.2.1, fun _ => rfl, hJ.2.2.2.2.2.1, hJ.2.2.2.2.2.2.1, hJ.2.2.2.2.2.2.2.1, hJ.2.2.2.2.2.2.2.2.1, hJ.2.2.2.2.2.2.2.2.2.1, hJ.2.2.2.2.2.2.2.2.2.2.1, hJ.2.2.2.2.2.2.2.2.2.2.2.1, hJ.2.2.2.2.2.2.2.2.2.2.2.2.1, hJ.2.2.2.2.2.2.2.2.2.2.2.2.2⟩
      | 3, _ =>
        refine StepAt.of (need := [2]) (later := [7]) (k := 6) (d := some 12) rfl rfl (by kernel_rfl) (by kernel_rfl) ?_
        intro L T wq ev a he hL hN hM hJ next hnext
        have e11 := (he.tmp 11).trans (hJ.2.2.2.2.1 (hN.1))
        have ef := he.func
        go_simp
        refine (rabs_any _ y _ (I2.out.below hJ.1)).mono ?_
        rintro e wq' ⟨v, rfl, i, hb⟩
        exact hnext _ _ ⟨hJ.1.trans ((hb).mono hJ.1.size), hJ.2.1, hJ.2.2.1, hJ.2.2.2.1, hJ.2.2.2.2.1, fun h => (hJ.2.2.2.2.2.1 h).below (hb), fun _ => i, fun h => (hJ.2.2.2.2.2.2.2.1 h).step (hb), fun h h' => (hJ.2.2.2.2.2.2.2.2.1 h h').step (hb), fun h => (hJ.2.2.2.2.2.2.2.2.2.1 h).step (hb), fun h h' => (hJ.2.2.2.2.2.2.2.2.2.2.1 h h').step (hb), hJ.2.2.2.2.2.2.2.2.2.2.2.1, fun h => (hJ.2.2.2.2.2.2.2.2.2.2.2.2.1 h).step (hb), fun h => clash (hM.1) h⟩
      | 4, _ =>
        refine StepAt.of (need := []) (later := [6]) (k := 6) (d := some 5) rfl rfl (by kernel_rfl) (by kernel_rfl) ?_
        intro L T wq ev a he hL hN hM hJ next hnext
        go_simp
        have hb := below_alloc wq (.cells #[.bool false, .slice none 0 0] 57)
        exact hnext _ _ ⟨hJ.1.trans ((hb).mono hJ.1.size), hJ.2.1, hJ.2.2.1, hJ.2.2.2.1, hJ.2.2.2.2.1, fun h => (hJ.2.2.2.2.2.1 h).below (hb), fun h => (hJ.2.2.2.2.2.2.1 h).below (hb), fun _ => PS.new hJ.1.size _, fun _ _ => PB.new hJ.1.size _ [.bool false, .slice none 0 0], fun h => (hJ.2.2.2.2.2.2.2.2.2.1 h).step (hb), fun h h' => (hJ.2.2.2.2.2.2.2.2.2.2.1 h h').step (hb), fun _ h => Ne.symm (hJ.2.2.2.2.2.2.2.2.2.1 h).ne, fun h => clash (hM.1) h, fun h => (hJ.2.2.2.2.2.2.2.2.2.2.2.2.2 h).step (hb)⟩
      | 5, _ =>
        refine StepAt.of (need := []) (later := [7]) (k := 6) (d := some 6) rfl rfl (by kernel_rfl) (by kernel_rfl) ?_
        intro L T wq ev a he hL hN hM hJ next hnext
        go_simp
        have hb := below_alloc wq (.cells #[.bool false, .slice none 0 0] 57)
        exact hnext _ _ ⟨hJ.1.trans ((hb).mono hJ.1.size), hJ.2.1, hJ.2.2.1, hJ.2.2.2.1, hJ.2.2.2.2.1, fun h => (hJ.2.2.2.2.2.1 h).below (hb), fun h => (hJ.2.2.2.2.2.2.1 h).below (hb), fun h => (hJ.2.2.2.2.2.2.2.1 h).step (hb), fun h h' => (hJ.2.2.2.2.2.2.2.2.1 h h').step (hb), fun _ => PS.new hJ.1.size _, fun _ _ => PB.new hJ.1.size _ [.bool false, .slice none 0 0], fun h _ => (hJ.2.2.2.2.2.2.2.1 h).ne, fun h => (hJ.2.2.2.2.2.2.2.2.2.2.2.2.1 h).step (hb), fun h => clash (hM.1) h⟩
      | 6, _ =>
        refine StepAt.of (need := [4, 1, 5]) (later := []) (k := 6) (d := none) rfl rfl (by kernel_rfl) (by kernel_rfl) ?_
        intro L T wq ev a he hL hN hM hJ next hnext
        obtain ⟨g, hg, hge, hbx⟩ := hJ.2.2.2.2.2.2.2.2.1 (hN.1) hL
        obtain ⟨sv, mv, nv, cv, hv, iv⟩ := (hJ.2.2.2.2.2.1 (hN.2.1)).cells
        have e5 := (he.tmp 5).trans hg
        have e10 := (he.tmp 10).trans hv
        have hc0 := hbx.cell 0 rfl
        have hf0 := hbx.free 0
        have hc1 := hbx.cell 1 rfl
        have hf1 := hbx.free 1
        have hk := keeps_all hbx (by intro c hc z e; subst e; simp at hc) [.bool sv, .slice mv nv cv] rfl
        go_simp
        exact hnext undef _ ⟨below_all hge [.bool sv, .slice mv nv cv] 0 _ hJ.1, hJ.2.1, hJ.2.2.1, hJ.2.2.2.1, hJ.2.2.2.2.1, fun h => (hJ.2.2.2.2.2.1 h).keep hk, fun h => (hJ.2.2.2.2.2.2.1 h).keep hk, fun h => (hJ.2.2.2.2.2.2.2.1 h).put [.bool sv, .slice mv nv cv], fun _ h => no_more h, fun h => (hJ.2.2.2.2.2.2.2.2.2.1 h).put [.bool sv, .slice mv nv cv], fun h h' => (hJ.2.2.2.2.2.2.2.2.2.2.1 h h').put hg (hJ.2.2.2.2.2.2.2.2.2.2.2.1 (hN.1) (hN.2.2.1)) [.bool sv, .slice mv nv cv], hJ.2.2.2.2.2.2.2.2.2.2.2.1, fun _ => PV.set' [.bool sv, .slice mv nv cv] hg hv hbx hge rfl, fun h => (hJ.2.2.2.2.2.2.2.2.2.2.2.2.2 h).put hg (hJ.2.2.2.2.2.2.2.2.2.2.2.1 (hN.1) (hN.2.2.1)) [.bool sv, .slice mv nv cv]⟩
      | 7, _ =>
        refine StepAt.of (need := [5, 3, 4]) (later := []) (k := 6) (d := none) rfl rfl (by kernel_rfl) (by kernel_rfl) ?_
        intro L T wq ev a he hL hN hM hJ next hnext
        obtain ⟨g, hg, hge, hbx⟩ := hJ.2.2.2.2.2.2.2.2.2.2.1 (hN.1) hL
        obtain ⟨sv, mv, nv, cv, hv, iv⟩ := (hJ.2.2.2.2.2.2.1 (hN.2.1)).cells
        have e6 := (he.tmp 6).trans hg
        have e12 := (he.tmp 12).trans hv
        have hc0 := hbx.cell 0 rfl
        have hf0 := hbx.free 0
        have hc1 := hbx.cell 1 rfl
        have hf1 := hbx.free 1
        have hk := keeps_all hbx (by intro c hc z e; subst e; simp at hc) [.bool sv, .slice mv nv cv] rfl
        go_simp
        exact hnext undef _ ⟨below_all hge [.bool sv, .slice mv nv cv] 0 _ hJ.1, hJ.2.1, hJ.2.2.1, hJ.2.2.2.1, hJ.2.2.2.2.1, fun h => (hJ.2.2.2.2.2.1 h).keep hk, fun h => (hJ.2.2.2.2.2.2.1 h).keep hk, fun h => (hJ.2.2.2.2.2.2.2.1 h).put [.bool sv, .slice mv nv cv], fun h h' => (hJ.2.2.2.2.2.2.2.2.1 h h').put hg (Ne.symm (hJ.2.2.2.2.2.2.2.2.2.2.2.1 (hN.2.2.1) (hN.1))) [.bool sv, .slice mv nv cv], fun h => (hJ.2.2.2.2.2.2.2.2.2.1 h).put [.bool sv, .slice mv nv cv], fun _ h => no_more h, hJ.2.2.2.2.2.2.2.2.2.2.2.1, fun h => (hJ.2.2.2.2.2.2.2.2.2.2.2.2.1 h).put hg (Ne.symm (hJ.2.2.2.2.2.2.2.2.2.2.2.1 (hN.2.2.1) (hN.1))) [.bool sv, .slice mv nv cv], fun _ => PV.set' [.bool sv, .slice mv nv cv] hg hv hbx hge rfl⟩
      | k + 8, hi => exact absurd hi (Nat.not_lt.2 (Nat.le_add_left 8 k))
    · intro L a wq hA hJ hs hd hf
      obtain ⟨gq, cs0, hp0, hge0, hv0, hb0⟩ := hJ.2.2.2.2.2.2.2.2.2.2.2.2.1 (hA.2.2.2.2.2.2.1)
      have i0 := hJ.2.2.2.2.2.1 (hA.2.1)
      obtain ⟨sa, ma, la, ka, hq0, i0⟩ := i0.cells
      rw [hq0, Value.agg.injEq] at hv0
      have hl0 : cs0 = _ := congrArg Array.toList hv0.symm
      subst hl0
      obtain ⟨gr, cs1, hp1, hge1, hv1, hb1⟩ := hJ.2.2.2.2.2.2.2.2.2.2.2.2.2 (hA.2.2.2.2.2.2.2.1)
      have i1 := hJ.2.2.2.2.2.2.1 (hA.2.2.2.1)
      obtain ⟨sb, mb, lb, kb, hq1, i1⟩ := i1.cells
      rw [hq1, Value.agg.injEq] at hv1
      have hl1 : cs1 = _ := congrArg Array.toList hv1.symm
      subst hl1
      have hne0_1 : gq ≠ gr := fun e => hJ.2.2.2.2.2.2.2.2.2.2.2.1 (hA.2.2.2.2.1) (hA.2.2.2.2.2.1) (hp0.trans (e ▸ hp1.symm))
      refine (by assumption : ∀ a' w', Met _ a' w' → _) _ _ (Met.intro ((by assumption : ∀ a' w', _ → _) _ _ ?_))
      exact ⟨a.tmps.getD 5 undef, a.tmps.getD 6 undef, a.tmps.getD 9 undef, a.tmps.getD 10 undef, a.tmps.getD 11 undef, a.tmps.getD 12 undef, a.tmps.getD 13 undef, a.tmps.getD 14 undef, a.tmps.getD 15 undef, a.tmps.getD 16 undef, a.tmps.getD 17 undef, a.tmps.getD 18 undef, a.tmps.getD 19 undef, a.tmps.getD 20 undef, a.tmps.getD 21 undef, a.tmps.getD 22 undef, a.tmps.getD 23 undef, a.tmps.getD 24 undef, a.tmps.getD 25 undef, ⟨gq, sa, ma, la, ka, gr, sb, mb, lb, kb, hp0, hge0, hb0, i0, hp1, hge1, hb1, i1, hne0_1, hJ.1⟩, act_eq _ _ [5, 6, 9, 10, 11, 12, 13, 14, 15, 16, 17, 18, 19, 20, 21, 22, 23, 24, 25] hf (by kernel_rfl) (hs.trans (by kernel_rfl)) hd (by kernel_rfl)⟩
  case rest =>
  obtain ⟨gq, sa, ma, la, ka, gr, sb, mb, lb, kb, rfl, hge0, hbx0, hi0, rfl, hge1, hbx1, hi1, hne0_1, hb⟩ := hcut
  have LTS : Hid (w.heap.size < gq ∧ (w.heap.size + 1) < gq ∧ (w.heap.size + 1 + 1) < gq ∧ w.heap.size < gr ∧ (w.heap.size + 1) < gr ∧ (w.heap.size + 1 + 1) < gr ∧ gq ≠ gr) := hide ⟨Nat.lt_of_lt_of_le P0.out.lt hge0, Nat.lt_of_lt_of_le P1.out.lt hge0, Nat.lt_of_lt_of_le P2.out.lt hge0, Nat.lt_of_lt_of_le P0.out.lt hge1, Nat.lt_of_lt_of_le P1.out.lt hge1, Nat.lt_of_lt_of_le P2.out.lt hge1, hne0_1⟩
  replace HB := hide (HB.out.trans (hb.mono HB.out.size))
  replace P2 := hide (P2.out.step hb)
  have PQ := hide hbx0
  have PR := hide hbx1
  have IQ := hide hi0
  have IR := hide hi1
  clear P0 P1 I1 I2 hge0 hge1 hbx0 hbx1 hi0 hi1 hne0_1 hb
  generalize hwc : wc = w5 at *
  clear hwc
  go_wp2
  go_loopw [7, 8] (fun u7 u8 wr => ∃ (A B : Nat) (sa : Bool) (ma : Option Addr) (la ka : Nat) (sb : Bool) (mb : Option Addr) (lb kb : Nat), Nat.gcd A B = Int.gcd x y ∧ (D.lim A).length ≤ 10000000 ∧ (D.lim B).length ≤ 10000000 ∧ Below w.heap.size w wr ∧ Box2 wr (w.heap.size + 1 + 1) 57 (.bool false) (.slice none 0 0) ∧ Box2 wr gq 57 (.bool sa) (.slice ma la ka) ∧ Box2 wr gr 57 (.bool sb) (.slice mb lb kb) ∧ RInt wr (.agg #[.bool sa, .slice ma la ka]) (A : Int) ∧ RInt wr (.agg #[.bool sb, .slice mb lb kb]) (B : Int)) (fun _ _ wr => dnumAt wr gr)
  case atStart => exact ⟨x.natAbs, y.natAbs, sa, ma, la, ka, sb, mb, lb, kb, rfl, l1, l2, HB.out, P2.out, PQ.out, PR.out, IQ.out, IR.out⟩
  case round =>
    clear HB P2 PQ PR IQ IR
    obtain ⟨A, B, sa, ma, la, ka, sb, mb, lb, kb, hg, hla, hlb, hB, h2, hq, hr, hiq, hir⟩ := hrel
    have HG := hide hg
    have HLA := hide hla
    have HLB := hide hlb
    have HB := hide hB
    have P2 := hide h2
    have PQ := hide hq
    have PR := hide hr
    have IQ := hide hiq
    have IR := hide hir
    clear hg hla hlb hB h2 hq hr hiq hir
    have PR0 := hide PR.out
    have IR0 := hide IR.out
    have HLN := hide IR.out.len
    have hkb := HLN.out.2.2.1
    have hlk := HLN.out.2.2.2
    unfold maxLen at hkb
    have r1 := PR.out.cell1
    by_cases hB0 : B = 0
    · subst hB0
      have e0 : lb = 0 := HLN.out.1 rfl
      subst e0
      have q0 := PQ.out.cell0
      have q1 := PQ.out.cell1
      have hc0 := P2.out.cell0
      have hc1 := P2.out.cell1
      have hf0 := P2.out.free 0
      have hf1 := P2.out.free 1
      go_wp2
      refine ret_ref rfl (w.heap.size + 1 + 1) _ _ _ _ rfl ((P2.out.set0 _).set1 _) rfl ?_
      exact ⟨_, rfl, by have h := IQ.out.keep (P2.out.keeps (by simp) (by simp) (.bool sa) (.slice ma la ka)); have hg := HG.out; rw [Nat.gcd_zero_right] at hg; rw [← hg]; exact h, below_put HB.out (by omega) _ _⟩
    · have hlp : 0 < lb := HLN.out.2.1 (by omega)
      have HBP := hide (Nat.pos_of_ne_zero hB0)
      clear hB0
      have r0 := PR.out.cell0
      have q0 := PQ.out.cell0
      have q1 := PQ.out.cell1
      go_wp2_with fail
      refine (rdm_any _ _ (A : Int) (B : Int) _ IQ.out IR.out (by rw [Int.natAbs_natCast]; exact HLA.out) (by rw [Int.natAbs_natCast]; exact HLB.out) (by have := HBP.out; omega)).mono ?_
      rintro e u1 ⟨vq, vr, rfl, nq, nr, hb⟩
      obtain ⟨s3, m3, l3, k3, rfl, nq⟩ := nq.cells
      obtain ⟨s4, m4, l4, k4, rfl, nr⟩ := nr.cells
      rw [← Int.natCast_emod] at nr
      replace HB := hide (HB.out.trans (hb.mono HB.out.size))
      replace P2 := hide (P2.out.step hb)
      replace PQ := hide (PQ.out.step hb)
      replace PR := hide (PR.out.step hb)
      replace IR := hide (IR.out.below hb)
      have I4 := hide nr
      clear hb nq nr r0 r1 q0 q1 IQ
      go_upto_region 4 with fail
      have al1 := below_alloc u1 (.cells #[.bool s3, .slice m3 l3 k3] 57)
      have al2 := below_alloc (u1.alloc (.cells #[.bool s3, .slice m3 l3 k3] 57)) (.cells #[.bool s4, .slice m4 l4 k4] 57)
      have al := al1.trans (al2.mono (by rw [World.size_alloc]; omega))
      have LT4 : Hid (gq < u1.heap.size ∧ gr < u1.heap.size) := hide ⟨PQ.out.lt, PR.out.lt⟩
      have P4 := Box2.new (u1.alloc (.cells #[.bool s3, .slice m3 l3 k3] 57)) 57 (.bool s4) (.slice m4 l4 k4)
      rw [World.size_alloc] at P4
      replace P4 := hide P4
      replace HB := hide (HB.out.trans (al.mono HB.out.size))
      replace P2 := hide (P2.out.step al)
      replace PQ := hide (PQ.out.step al)
      replace PR := hide (PR.out.step al)
      replace IR := hide (IR.out.below al)
      replace I4 := hide (I4.out.below al)
      clear al1 al2 al
      generalize (u1.alloc (.cells #[.bool s3, .slice m3 l3 k3] 57)).alloc (.cells #[.bool s4, .slice m4 l4 k4] 57) = u2 at *
      generalize u1.heap.size = g4 at *
      have r0 := PR.out.cell0
      have r1 := PR.out.cell1
      have rf0 := PR.out.free 0
      have rf1 := PR.out.free 1
      have q0 := PQ.out.cell0
      have q1 := PQ.out.cell1
      have qf0 := PQ.out.free 0
      have qf1 := PQ.out.free 1
      have t0 := P4.out.cell0
      have t1 := P4.out.cell1
      have hne := LTS.out.2.2.2.2.2.2
      have hlt4 := LT4.out
      obtain ⟨hl41, hl42⟩ := hlt4
      go_wp2_with fail
      go_region
      all_goals
        go_wp2
        go_roundw
        case rel =>
          refine ⟨B, A % B, sb, mb, lb, kb, s4, m4, l4, k4, by rw [← HG.out, Nat.gcd_comm A B, Nat.gcd_rec B A, Nat.gcd_comm], HLB.out, Nat.le_trans (dlen_mono (Nat.mod_le A B)) HLA.out, ?_, ?_, ?_, ?_, ?_, ?_⟩
          · exact (below_put (below_put HB.out (show w.heap.size ≤ gq by have := LTS.out; omega) (.bool sb) (.slice mb lb kb)) (show w.heap.size ≤ gr by have := LTS.out; omega) (.bool s4) (.slice m4 l4 k4)).drew
          · exact ((P2.out.other (C := gq) (by have := LTS.out; omega) (.bool sb) (.slice mb lb kb)).other (C := gr) (by have := LTS.out; omega) (.bool s4) (.slice m4 l4 k4)).drew
          · exact ((PQ.out.put (.bool sb) (.slice mb lb kb)).other (C := gr) (by have := LTS.out; omega) (.bool s4) (.slice m4 l4 k4)).drew
          · exact ((PR.out.other (C := gq) (by have := LTS.out; omega) (.bool sb) (.slice mb lb kb)).put (.bool s4) (.slice m4 l4 k4)).drew
          · exact ((IR.out.keep (PQ.out.keeps (by simp) (by simp) (.bool sb) (.slice mb lb kb))).keep ((PR.out.other (C := gq) (by have := LTS.out; omega) (.bool sb) (.slice mb lb kb)).keeps (by simp) (by simp) (.bool s4) (.slice m4 l4 k4))).drew
          · exact ((I4.out.keep (PQ.out.keeps (by simp) (by simp) (.bool sb) (.slice mb lb kb))).keep ((PR.out.other (C := gq) (by have := LTS.out; omega) (.bool sb) (.slice mb lb kb)).keeps (by simp) (by simp) (.bool s4) (.slice m4 l4 k4))).drew
        case measure =>
          have e1 := dnumAt_eq PR0.out IR0.out
          have e2 := dnumAt_eq ((PR.out.other (C := gq) (by have := LTS.out; omega) (.bool sb) (.slice mb lb kb)).put (.bool s4) (.slice m4 l4 k4)).drew ((I4.out.keep (PQ.out.keeps (by simp) (by simp) (.bool sb) (.slice mb lb kb))).keep ((PR.out.other (C := gq) (by have := LTS.out; omega) (.bool sb) (.slice mb lb kb)).keeps (by simp) (by simp) (.bool s4) (.slice m4 l4 k4))).drew
          rw [e1, e2]
          exact Nat.mod_lt _ HBP.out
end Go.Proofs.Ytgkibmigbjjnnaa

namespace Go.Proofs.Ytgkibmigbjjnnaa
open Go.RowKit

section
variable {P : Program} {md : Region.Mode} {ops : Array Oper} {Q : Exit → Act → World → Prop} {F : World → Prop} {pend : Nat → Bool}

/-- j waits for i, by so many steps at most -/
def Late (md : Region.Mode) (ops : Array Oper) (i : Nat) : Nat → Nat → Bool
  | 0, _ => false
  | n + 1, j => match ops[j]? with
    | some oj => oj.after.any fun e => Region.binds md e && (e.on == i || Late md ops i n e.on)
    | none => false

/-- what is listed waits for nothing that is not -/
def Closed (md : Region.Mode) (ops : Array Oper) (listed : Array Bool) : Bool :=
  (List.range ops.size).all fun j => !(listed.getD j true) || match ops[j]? with
    | some oj => oj.after.all fun e => !(Region.binds md e) || listed.getD e.on false
    | none => true

def WaitsL (md : Region.Mode) (ops : Array Oper) (pend : Nat → Bool) (i n : Nat) : Bool :=
  (List.range ops.size).all fun j => j == i || pend j || Late md ops i n j

/-- what is listed waits for nothing that is not, as a proposition -/
def Shut (md : Region.Mode) (ops : Array Oper) (listed : Array Bool) : Prop :=
  ∀ (j : Nat) (oj : Oper), ops[j]? = some oj → listed[j]? = some true → ∀ e ∈ oj.after, Region.binds md e = true → listed[e.on]? = some true

theorem Closed.shut {listed : Array Bool} (h : Closed md ops listed = true) : Shut md ops listed := by
  intro j oj hj hl e he hb
  have := List.all_eq_true.1 h j (List.mem_range.2 (Array.getElem?_eq_some_iff.1 hj).1)
  have hl' : listed.getD j true = true := by simp [hl]
  simp only [hj, hl', Bool.not_true, Bool.false_or] at this
  have h2 := Array.all_eq_true'.1 this e he
  simp only [hb, Bool.not_true, Bool.false_or] at h2
  rcases Nat.lt_or_ge e.on listed.size with h' | h'
  · simp [h'] at h2 ⊢; exact h2
  · simp [Array.getElem?_eq_none h'] at h2

theorem Shut.not_late {listed : Array Bool} {i : Nat} (h : Shut md ops listed) (hi : listed[i]? ≠ some true) : ∀ (n j : Nat), listed[j]? = some true → Late md ops i n j = false
  | 0, _, _ => rfl
  | n + 1, j, hj => by
    unfold Late
    cases ho : ops[j]? with
    | none => rfl
    | some oj =>
      simp only
      rw [Array.any_eq_false']
      intro e he hc
      simp only [Bool.and_eq_true, Bool.or_eq_true, beq_iff_eq] at hc
      have hl := h j oj ho hj e he hc.1
      rcases hc.2 with h1 | h1
      · rw [h1] at hl; exact hi hl
      · rw [h.not_late hi n e.on hl] at h1; cases h1

theorem Calm.firstL {i n : Nat} {oi : Oper} {v : Value} (hi : ops[i]? = some oi) (hs : Region.noSelect ops = true) (hw : WaitsL md ops pend i (n + 1) = true)
    (hQ : ∀ c a w, Q (.panic c) (a.put oi.dst v) w → Q (.panic c) a w) : ∀ (fuel : Nat) (listed : Array Bool) (a : Act) (w : World), Shut md ops listed →
      (∀ j oj, ops[j]? = some oj → j ≠ i → listed.getD j true = false → (∀ e ∈ oj.after, Region.binds md e = true → e.on ≠ i) → oi.apart ops oj = true) →
      i ∈ Region.ready md ops listed → F w → Gives P ops F oi v a → Calm P md ops Q F pend fuel (listed.setIfInBounds i true) (a.put oi.dst v) w → Calm P md ops Q F pend (fuel + 1) listed a w := by
  have hsel := Region.noSelect_spec hs
  intro fuel
  induction fuel with
  | zero =>
    intro listed a w _ _ hr hF hy H
    refine ⟨fun h => (by rw [h] at hr; cases hr), fun j hj => ?_⟩
    by_cases e : j = i
    · subst e; exact hy.wpOp hi hF ⟨fun _ => hF, H⟩
    · have := ready_mono hj e
      rw [H.1] at this
      cases this
  | succ fuel ih =>
    intro listed a w hsh hfree hr hF hy H
    refine ⟨fun h => (by rw [h] at hr; cases hr), fun j hj => ?_⟩
    by_cases e : j = i
    · subst e; exact hy.wpOp hi hF ⟨fun _ => hF, H⟩
    · obtain ⟨hun, oj, hoj, hall⟩ := mem_ready.1 hj
      have hni : listed[i]? ≠ some true := by
        have h0 := (mem_ready.1 hr).1
        intro hc
        simp [hc] at h0
      have hto : ∀ e ∈ oj.after, Region.binds md e = true → listed[e.on]? = some true := fun e he hb => by
        have h1 := hall e he hb
        rcases Nat.lt_or_ge e.on listed.size with h' | h'
        · simp [h'] at h1 ⊢; exact h1
        · simp [Array.getElem?_eq_none h'] at h1
      have hno : ∀ e ∈ oj.after, Region.binds md e = true → e.on ≠ i := fun e he hb heq => by
        have h1 := hto e he hb
        rw [heq] at h1
        exact hni h1
      have hlate : Late md ops i (n + 1) j = false := by
        unfold Late
        simp only [hoj]
        rw [Array.any_eq_false']
        intro e he hc
        simp only [Bool.and_eq_true, Bool.or_eq_true, beq_iff_eq] at hc
        rcases hc.2 with h1 | h1
        · exact hno e he hc.1 h1
        · rw [hsh.not_late hni n e.on (hto e he hc.1)] at h1; cases h1
      have hp : pend j = true := by
        have := List.all_eq_true.1 hw j (List.mem_range.2 (Array.getElem?_eq_some_iff.1 hoj).1)
        simp only [hlate, Bool.or_false, Bool.or_eq_true, beq_iff_eq, e, false_or] at this
        exact this
      have hsh' : Shut md ops (listed.setIfInBounds j true) := by
        intro k ok hk hl e' he' hb'
        have up : listed[e'.on]? = some true → (listed.setIfInBounds j true)[e'.on]? = some true := fun h => by
          rw [Array.getElem?_setIfInBounds]
          split
          · next h2 => rw [if_pos (by rw [h2]; exact (Array.getElem?_eq_some_iff.1 h).1)]
          · exact h
        by_cases hkj : j = k
        · subst hkj
          rw [hoj] at hk; cases hk
          exact up (hto e' he' hb')
        · rw [Array.getElem?_setIfInBounds, if_neg hkj] at hl
          exact up (hsh k ok hk hl e' he' hb')
      obtain ⟨k1, k2, k3⟩ := Oper.apart_spec (hfree j oj hoj e hun hno)
      have same : ∀ (a a' : Act), execOp a'.eval oi = execOp a.eval oi → Region.wanted oi (yielded ops a'.tmps) = Region.wanted oi (yielded ops a.tmps) → Gives P ops F oi v a → Gives P ops F oi v a' := by
        intro a a' h1 h2 h3
        unfold Gives at *
        rw [h1, h2]; exact h3
      have h2 := wpOp_late (x := oi.dst) (v := v) (Y := Gives P ops F oi v) hoj k1 k2 (fun cs b => hsel j oj cs b hoj) hQ
        (fun a u => same _ _ (execOp_put oi (fun cs b => hsel i oi cs b hi) a oj.dst u k3) (wanted_put oi a oj.dst u k3)) (fun a d => same _ _ rfl rfl) hy (H.2 j (ready_mono hj e))
      refine wpOp_mono (fun a' w' h3 => ⟨h3.2.1, ?_⟩) h2
      refine ih (listed.setIfInBounds j true) a' w' hsh' (fun k ok hk hki hun' hno' => hfree k ok hk hki ?_ hno') (ready_mono hr (Ne.symm e)) (h3.2.1 hp) h3.1 ?_
      · by_cases hjk : j = k
        · subst hjk; exact hun
        · rw [getD_set_ne true hjk] at hun'; exact hun'
      · rw [Array.setIfInBounds_comm _ _ e]; exact h3.2.2

theorem Calm.takeL {i : Nat} (n : Nat) {oi : Oper} {v : Value} {fuel : Nat} {listed : Array Bool} {a : Act} {w : World} (hc : Closed md ops listed = true) (hi : ops[i]? = some oi) (hs : Region.noSelect ops = true) (hw : WaitsL md ops pend i (n + 1) = true) (hf : Region.free md ops listed i = true)
    (hr : (Region.ready md ops listed).contains i = true) (hQ : ∀ c a w, Q (.panic c) (a.put oi.dst v) w → Q (.panic c) a w) (hF : F w) (hg : Region.wanted oi (yielded ops a.tmps) = true) (hy : ∀ w, F w → (execOp a.eval oi).run P w = .ok (.value v) w)
    {l' : Array Bool} (hl : listed.setIfInBounds i true = l') {d : Option Tmp} (hd : oi.dst = d) {a' : Act} (ha : a.put d v = a') (h : Calm P md ops Q F pend fuel l' a' w) : Calm P md ops Q F pend (fuel + 1) listed a w := by
  subst hl; subst hd; subst ha
  exact Calm.firstL hi hs hw hQ fuel listed a w (Closed.shut hc) (Region.free_spec hi hf) (by simpa using hr) hF (.inl ⟨hg, hy⟩) h
end
end Go.Proofs.Ytgkibmigbjjnnaa

namespace Go.Proofs.Ytgkibmigbjjnnaa
open Go.RowKit

theorem Try.infoQ : (Try.prog.info? 59).map (·.size) = some 4 := by kernel_rfl
def BoxQ (W : World) (B : Nat) (x y u v : Value) : Prop := W.heap[B]? = some (.cells #[x, y, u, v] 59 (0, 0))
theorem BoxQ.cell0 {W : World} {B : Nat} {x y u v : Value} (h : BoxQ W B x y u v) : W.cell? ⟨B, 0, none⟩ = some x := by simp [World.cell?, show W.heap[B]? = _ from h]
theorem BoxQ.cell1 {W : World} {B : Nat} {x y u v : Value} (h : BoxQ W B x y u v) : W.cell? ⟨B, 1, none⟩ = some y := by simp [World.cell?, show W.heap[B]? = _ from h]
theorem BoxQ.cell2 {W : World} {B : Nat} {x y u v : Value} (h : BoxQ W B x y u v) : W.cell? ⟨B, 2, none⟩ = some u := by simp [World.cell?, show W.heap[B]? = _ from h]
theorem BoxQ.cell3 {W : World} {B : Nat} {x y u v : Value} (h : BoxQ W B x y u v) : W.cell? ⟨B, 3, none⟩ = some v := by simp [World.cell?, show W.heap[B]? = _ from h]
theorem BoxQ.free {W : World} {B : Nat} {x y u v : Value} (h : BoxQ W B x y u v) (o : Nat) : W.frozen? ⟨B, o, none⟩ = false := by simp [World.frozen?, show W.heap[B]? = _ from h]
theorem BoxQ.lt {W : World} {B : Nat} {x y u v : Value} (h : BoxQ W B x y u v) : B < W.heap.size := (Array.getElem?_eq_some_iff.1 h).1
theorem BoxQ.step {W W' : World} {B : Nat} {x y u v : Value} (h : BoxQ W B x y u v) (hb : Below W.heap.size W W') : BoxQ W' B x y u v := (hb.block B h.lt).trans h
theorem BoxQ.drew {W : World} {B : Nat} {x y u v : Value} (h : BoxQ W B x y u v) : BoxQ W.drew B x y u v := h
theorem BoxQ.new (W : World) (x y u v : Value) : BoxQ (W.alloc (.cells #[x, y, u, v] 59)) W.heap.size x y u v := heap_alloc_new _ _
theorem BoxQ.set_ne {W : World} {B C o : Nat} {x y u v : Value} (h : BoxQ W B x y u v) (hne : C ≠ B) (c : Value) : BoxQ (W.setCell ⟨C, o, none⟩ c) B x y u v := by
  show (W.heap.modify C _)[B]? = _
  rw [Array.getElem?_modify, if_neg hne]; exact h
theorem BoxQ.set {W : World} {B : Nat} {x y u v : Value} (h : BoxQ W B x y u v) (o : Nat) (c : Value) : (W.setCell ⟨B, o, none⟩ c).heap[B]? = some (.cells (#[x, y, u, v].setIfInBounds o c) 59 (0, 0)) := by
  obtain ⟨hlt, hk⟩ := Array.getElem?_eq_some_iff.1 h
  show (W.heap.modify B _)[B]? = _
  rw [Array.getElem?_eq_getElem (by rw [Array.size_modify]; exact hlt), Array.getElem_modify_self, hk]
  rfl
theorem BoxQ.put {W : World} {B : Nat} {x y u v : Value} (h : BoxQ W B x y u v) (x' y' u' v' : Value) : BoxQ ((((W.setCell ⟨B, 0, none⟩ x').setCell ⟨B, 1, none⟩ y').setCell ⟨B, 2, none⟩ u').setCell ⟨B, 3, none⟩ v') B x' y' u' v' := by
  have h0 : BoxQ (W.setCell ⟨B, 0, none⟩ x') B x' y u v := h.set 0 x'
  have h1 : BoxQ ((W.setCell ⟨B, 0, none⟩ x').setCell ⟨B, 1, none⟩ y') B x' y' u v := h0.set 1 y'
  have h2 : BoxQ (((W.setCell ⟨B, 0, none⟩ x').setCell ⟨B, 1, none⟩ y').setCell ⟨B, 2, none⟩ u') B x' y' u' v := h1.set 2 u'
  exact h2.set 3 v'
theorem BoxQ.keeps {W : World} {B : Nat} {x y u v : Value} (h : BoxQ W B x y u v) (hx : ∀ z, x ≠ .int .u32 z) (hy : ∀ z, y ≠ .int .u32 z) (hu : ∀ z, u ≠ .int .u32 z) (hv : ∀ z, v ≠ .int .u32 z) (x' y' u' v' : Value) : Spares W ((((W.setCell ⟨B, 0, none⟩ x').setCell ⟨B, 1, none⟩ y').setCell ⟨B, 2, none⟩ u').setCell ⟨B, 3, none⟩ v') := by
  have h0 : BoxQ (W.setCell ⟨B, 0, none⟩ x') B x' y u v := h.set 0 x'
  have h1 : BoxQ ((W.setCell ⟨B, 0, none⟩ x').setCell ⟨B, 1, none⟩ y') B x' y' u v := h0.set 1 y'
  have h2 : BoxQ (((W.setCell ⟨B, 0, none⟩ x').setCell ⟨B, 1, none⟩ y').setCell ⟨B, 2, none⟩ u') B x' y' u' v := h1.set 2 u'
  exact (((Spares.set h.cell0 hx x').trans (Spares.set h0.cell1 hy y')).trans (Spares.set h1.cell2 hu u')).trans (Spares.set h2.cell3 hv v')
theorem BoxQ.other4 {W : World} {B C : Nat} {x y u v : Value} (h : BoxQ W B x y u v) (hne : C ≠ B) (x' y' u' v' : Value) : BoxQ ((((W.setCell ⟨C, 0, none⟩ x').setCell ⟨C, 1, none⟩ y').setCell ⟨C, 2, none⟩ u').setCell ⟨C, 3, none⟩ v') B x y u v := (((h.set_ne hne _).set_ne hne _).set_ne hne _).set_ne hne _
theorem BoxQ.other {W : World} {B C : Nat} {x y u v : Value} (h : BoxQ W B x y u v) (hne : C ≠ B) (x' y' : Value) : BoxQ ((W.setCell ⟨C, 0, none⟩ x').setCell ⟨C, 1, none⟩ y') B x y u v := (h.set_ne hne _).set_ne hne _
def BoxR (W : World) (B : Nat) (x y : Value) : Prop := Box2 W B 57 x y
theorem BoxR.cell0 {W : World} {B : Nat} {x y : Value} (h : BoxR W B x y) : W.cell? ⟨B, 0, none⟩ = some x := Box2.cell0 h
theorem BoxR.cell1 {W : World} {B : Nat} {x y : Value} (h : BoxR W B x y) : W.cell? ⟨B, 1, none⟩ = some y := Box2.cell1 h
theorem BoxR.free {W : World} {B : Nat} {x y : Value} (h : BoxR W B x y) (o : Nat) : W.frozen? ⟨B, o, none⟩ = false := Box2.free h o
theorem BoxR.lt {W : World} {B : Nat} {x y : Value} (h : BoxR W B x y) : B < W.heap.size := Box2.lt h
theorem BoxR.step {W W' : World} {B : Nat} {x y : Value} (h : BoxR W B x y) (hb : Below W.heap.size W W') : BoxR W' B x y := Box2.step h hb
theorem BoxR.drew {W : World} {B : Nat} {x y : Value} (h : BoxR W B x y) : BoxR W.drew B x y := h
theorem BoxR.new (W : World) (x y : Value) : BoxR (W.alloc (.cells #[x, y] 57)) W.heap.size x y := Box2.new W _ x y
theorem BoxR.put {W : World} {B : Nat} {x y : Value} (h : BoxR W B x y) (x' y' : Value) : BoxR ((W.setCell ⟨B, 0, none⟩ x').setCell ⟨B, 1, none⟩ y') B x' y' := (Box2.set0 h x').set1 y'
theorem BoxR.other {W : World} {B C : Nat} {x y : Value} (h : BoxR W B x y) (hne : C ≠ B) (x' y' : Value) : BoxR ((W.setCell ⟨C, 0, none⟩ x').setCell ⟨C, 1, none⟩ y') B x y := (Box2.set_ne h hne _).set_ne hne _
theorem BoxR.other4 {W : World} {B C : Nat} {x y : Value} (h : BoxR W B x y) (hne : C ≠ B) (x' y' u' v' : Value) : BoxR ((((W.setCell ⟨C, 0, none⟩ x').setCell ⟨C, 1, none⟩ y').setCell ⟨C, 2, none⟩ u').setCell ⟨C, 3, none⟩ v') B x y := (((Box2.set_ne h hne _).set_ne hne _).set_ne hne _).set_ne hne _
theorem BoxR.keeps {W : World} {B : Nat} {x y : Value} (h : BoxR W B x y) (hx : ∀ z, x ≠ .int .u32 z) (hy : ∀ z, y ≠ .int .u32 z) (x' y' : Value) : Spares W ((W.setCell ⟨B, 0, none⟩ x').setCell ⟨B, 1, none⟩ y') :=
  (Spares.set h.cell0 hx x').trans (Spares.set (Box2.set0 h x').cell1 hy y')
/-- the struct of a fraction in lowest terms -/
def RQ (w : World) (v : Value) (q : Rat) : Prop :=
  ∃ s m n c s' m' n' c', v = .agg #[.bool s, .slice m n c, .bool s', .slice m' n' c'] ∧ RInt w (.agg #[.bool s, .slice m n c]) q.num ∧ RInt w (.agg #[.bool s', .slice m' n' c']) (q.den : Int)
theorem RQ.below {w w' : World} {v : Value} {q : Rat} (h : RQ w v q) (hb : Below w.heap.size w w') : RQ w' v q := by
  obtain ⟨s, m, n, c, s', m', n', c', rfl, h1, h2⟩ := h
  exact ⟨s, m, n, c, s', m', n', c', rfl, h1.below hb, h2.below hb⟩
theorem RQ.keep {w w' : World} {v : Value} {q : Rat} (h : RQ w v q) (k : Spares w w') : RQ w' v q := by
  obtain ⟨s, m, n, c, s', m', n', c', rfl, h1, h2⟩ := h
  exact ⟨s, m, n, c, s', m', n', c', rfl, h1.keep k, h2.keep k⟩
theorem RQ.drew {w : World} {v : Value} {q : Rat} (h : RQ w v q) : RQ w.drew v q := h
theorem RQ.cells {w : World} {v : Value} {q : Rat} (h : RQ w v q) : ∃ s m n c s' m' n' c', v = .agg #[.bool s, .slice m n c, .bool s', .slice m' n' c'] ∧ RQ w (.agg #[.bool s, .slice m n c, .bool s', .slice m' n' c']) q := by
  have h' := h
  obtain ⟨s, m, n, c, s', m', n', c', rfl, _, _⟩ := h'
  exact ⟨s, m, n, c, s', m', n', c', rfl, h⟩
theorem RQ.num {w : World} {s s' : Bool} {m m' : Option Addr} {n c n' c' : Nat} {q : Rat} (h : RQ w (.agg #[.bool s, .slice m n c, .bool s', .slice m' n' c']) q) : RInt w (.agg #[.bool s, .slice m n c]) q.num := by
  obtain ⟨_, _, _, _, _, _, _, _, e, h1, h2⟩ := h
  simp only [Value.agg.injEq, Array.mk.injEq, List.cons.injEq, Value.bool.injEq, Value.slice.injEq, and_true] at e
  obtain ⟨rfl, ⟨rfl, rfl, rfl⟩, rfl, rfl, rfl, rfl⟩ := e
  exact h1
theorem RQ.den {w : World} {s s' : Bool} {m m' : Option Addr} {n c n' c' : Nat} {q : Rat} (h : RQ w (.agg #[.bool s, .slice m n c, .bool s', .slice m' n' c']) q) : RInt w (.agg #[.bool s', .slice m' n' c']) (q.den : Int) := by
  obtain ⟨_, _, _, _, _, _, _, _, e, h1, h2⟩ := h
  simp only [Value.agg.injEq, Array.mk.injEq, List.cons.injEq, Value.bool.injEq, Value.slice.injEq, and_true] at e
  obtain ⟨rfl, ⟨rfl, rfl, rfl⟩, rfl, rfl, rfl, rfl⟩ := e
  exact h2

theorem ret_rq {fn : Func} {R : Ending → World → Prop} {a : Act} {w : World} {p : Tmp} (h : fn.results = #[.cell p 59]) (g : Nat) (x y u v : Value)
    (hp : a.tmps.getD p undef = .pointer (some ⟨g, 0, none⟩)) (hg : BoxQ w g x y u v) (hd : a.defers = []) (hR : R (.returned (.agg #[x, y, u, v])) w) : bodyPost Try.prog fn R .ret a w := by
  refine bodyPost_ret ?_ hd hR
  have hp' : a.tmps[p]?.getD undef = .pointer (some ⟨g, 0, none⟩) := by simpa using hp
  simp [results, h, hp', asAddr, run_loadVar_row w g 59 59 #[x, y, u, v] (0, 0) _ hg Try.underlying59 rfl Try.infoQ]

theorem SzI.d7 {k : Nat} {z : Int} (h : SzI k z) (hk : 2 * k ≤ 10000000) : (D.lim z.natAbs).length ≤ 10000000 := by
  have h1 : (D.lim z.natAbs).length ≤ 2 * k := by
    refine D.lim_length_le ?_
    rw [Nat.pow_mul]
    exact h
  omega
end Go.Proofs.Ytgkibmigbjjnnaa
