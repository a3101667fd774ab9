/- swagelaw02.IntegerDivides answers true at all numbers, and turns nothing that was there. -/
import Derived.Test.YthlkfiocmahmoaaR2DMM
import Derived.Deep.Cut
import Derived.Test.YthlkfiocmahmoaaR2Is
import Derived.Test.YthlkfiocmahmoaaR2Law
import Derived.Test.YthlkfiocmahmoaaIOver
namespace Go.Proofs.Ythlkfiocmahmoaa
open Go.RowKit

theorem ret_rover {fn : Func} {R : Ending → World → Prop} {a : Act} {w : World} {p u : Tmp} (h : fn.results = #[.cell p 30, .tmp u]) (g : Nat) (x y : Value)
    (hp : a.tmps.getD p undef = .pointer (some ⟨g, 0, none⟩)) (hg : Box2 w g 30 x y) (hd : a.defers = []) (hR : R (.returned (.tuple #[.agg #[x, y], a.tmps.getD u undef])) w) : bodyPost Try.prog fn R .ret a w := by
  refine bodyPost_ret ?_ hd hR
  have hp' : a.tmps[p]?.getD undef = .pointer (some ⟨g, 0, none⟩) := by simpa using hp
  simp [results, h, hp', asAddr, run_loadVar_row w g 30 30 #[x, y] (0, 0) _ hg Try.underlying30 rfl Try.infoRef]
theorem rint_zero (w : World) : RInt w (.agg #[.bool false, .slice none 0 0]) 0 := ⟨false, 0, none, 0, rfl, Nums.nil_mk _ _ _ (Nat.zero_le _), rfl, fun _ => rfl⟩
theorem RInt.len {w : World} {s : Bool} {m : Option Addr} {n c : Nat} {z : Int} (h : RInt w (.agg #[.bool s, .slice m n c]) z) : (z = 0 → n = 0) ∧ (z ≠ 0 → 0 < n) ∧ c ≤ maxLen ∧ n ≤ c := by
  obtain ⟨b, k, a, c', he, hn, rfl, h0⟩ := h
  simp only [Value.agg.injEq, Array.mk.injEq, List.cons.injEq, Value.bool.injEq, Value.slice.injEq, and_true] at he
  obtain ⟨rfl, rfl, rfl, rfl⟩ := he
  obtain ⟨_, a', c'', he, h1, h2, _⟩ := hn
  simp only [Value.slice.injEq] at he
  obtain ⟨_, _, rfl⟩ := he
  refine ⟨fun h => ?_, fun h => ?_, h2, h1⟩
  · have : k = 0 := by have := congrArg Int.natAbs h; rw [sg_abs] at this; simpa using this
    rw [this]; rfl
  · rcases Nat.eq_zero_or_pos k with e | e
    · rw [e, sg_zero] at h; exact absurd rfl h
    · rw [D.lim_pos e]; simp

/-- what Over answers -/
def ROverP (x y : Int) (w : World) (e : Ending) (w' : World) : Prop := ∃ v z b, e = .returned (.tuple #[v, .bool b]) ∧ RInt w' v z ∧ ((x % y ≠ 0 ∧ z = 0 ∧ b = false) ∨ (x % y = 0 ∧ z = x / y ∧ b = true)) ∧ Below w.heap.size w w'

set_option maxRecDepth 100000 in
set_option maxHeartbeats 4000000 in
theorem rover_any (v1 v2 : Value) (x y : Int) (w : World) (h1 : RInt w v1 x) (h2 : RInt w v2 y) (l1 : (D.lim x.natAbs).length ≤ 10000000) (l2 : (D.lim y.natAbs).length ≤ 10000000) (hy : y ≠ 0) :
    Calls Try.prog 17 #[v1, v2] w fun e w' => ROverP x y w e w' := by
  obtain ⟨s1, a1, L1, c1, rfl, i1⟩ := h1.cells
  obtain ⟨s2, a2, L2, c2, rfl, i2⟩ := h2.cells
  have HE := hide (nboxes3 30 w (.bool s1) (.slice a1 L1 c1) (.bool s2) (.slice a2 L2 c2) (.bool false) (.slice none 0 0))
  have I1 := hide (i1.below HE.out.2.2.2)
  have I2 := hide (i2.below HE.out.2.2.2)
  have HB := hide HE.out.2.2.2
  have P2 := hide HE.out.2.2.1
  clear h1 h2 i1 i2 HE
  go_enter Try.func17, Try.ntmps17
  go_wp2_with fail
  refine (rdm_any _ _ x y _ I1.out I2.out l1 l2 hy).mono ?_
  rintro e w1 ⟨q, r, rfl, nq, nr, hb⟩
  obtain ⟨sq, mq, kq, cq, rfl, nq⟩ := nq.cells
  obtain ⟨sr, mr, kr, cr, rfl, nr⟩ := nr.cells
  replace HB := hide (HB.out.trans (hb.mono HB.out.size))
  replace P2 := hide (P2.out.step hb)
  have hal1 := below_alloc w1 (.cells #[.bool sq, .slice mq kq cq] 30)
  have hal2 := below_alloc (w1.alloc (.cells #[.bool sq, .slice mq kq cq] 30)) (.cells #[.bool sr, .slice mr kr cr] 30)
  have hal := hal1.trans (hal2.mono (by rw [World.size_alloc]; omega))
  have LT := hide P2.out.lt
  have PQ := (Box2.new w1 30 (.bool sq) (.slice mq kq cq)).step hal2
  have PR := Box2.new (w1.alloc (.cells #[.bool sq, .slice mq kq cq] 30)) 30 (.bool sr) (.slice mr kr cr)
  rw [World.size_alloc] at PR
  replace HB := hide (HB.out.trans (hal.mono HB.out.size))
  replace P2 := hide (P2.out.step hal)
  have IQ := hide (nq.below hal)
  have HLR := hide nr.len
  replace PQ := hide PQ
  replace PR := hide PR
  clear hb nq nr hal hal1 hal2 I1 I2
  go_upto_region 2 with fail
  generalize (w1.alloc (.cells #[.bool sq, .slice mq kq cq] 30)).alloc (.cells #[.bool sr, .slice mr kr cr] 30) = w2 at *
  generalize w1.heap.size = gq at *
  have hc0 := P2.out.cell0
  have hc1 := P2.out.cell1
  have hf0 := P2.out.free 0
  have hf1 := P2.out.free 1
  have r1 := PR.out.cell1
  have hcr := HLR.out.2.2.1
  have hkr := HLR.out.2.2.2
  unfold maxLen at hcr
  by_cases hz : x % y = 0
  · have HZ := hide hz
    have hk0 := HLR.out.1 hz
    subst hk0
    have q0 := PQ.out.cell0
    have q1 := PQ.out.cell1
    clear hz
    go_wp2
    refine ret_rover rfl (w.heap.size + 1 + 1) _ _ rfl (P2.out.put _ _) rfl ?_
    unfold ROverP
    exact ⟨_, _, _, rfl, IQ.out.keep (P2.out.keeps (by simp) (by simp) _ _), .inr ⟨HZ.out, rfl, rfl⟩, below_put HB.out (by omega) _ _⟩
  · have HZ := hide hz
    have hkp := HLR.out.2.1 hz
    clear hz
    go_wp2
    refine ret_rover rfl (w.heap.size + 1 + 1) _ _ rfl (P2.out.put _ _) rfl ?_
    unfold ROverP
    exact ⟨_, _, _, rfl, rint_zero _, .inl ⟨HZ.out, rfl, rfl⟩, below_put HB.out (by omega) _ _⟩
end Go.Proofs.Ythlkfiocmahmoaa

namespace Go.Proofs.Ythlkfiocmahmoaa
open Go.RowKit

theorem rint0 (w : World) : RInt w (.agg #[.bool false, .slice none 0 0]) 0 := ⟨false, 0, none, 0, rfl, Nums.nil_mk _ _ _ (Nat.zero_le _), rfl, fun _ => rfl⟩

set_option maxRecDepth 100000 in
set_option maxHeartbeats 2000000 in
theorem zero_yes (v : Value) (w : World) (h : IntAt w v 0) :
    Calls Try.prog 13 #[v] w fun e w' => e = .returned (.bool true) ∧ Below w.heap.size w w' := by
  have I1 := hide h
  obtain ⟨b, n, a, c, rfl, hn, e1, h0⟩ := h
  have P0 := hide (Box.new w (.bool b) (.slice a (lim n).length c))
  have HB := hide (below_alloc w (.cells #[.bool b, .slice a (lim n).length c] 28))
  replace I1 := hide (I1.out.below HB.out)
  clear hn h0 e1
  have p0 := P0.out.cell0
  have p1 := P0.out.cell1
  go_enter Try.func13, Try.ntmps13
  go_wp2_with fail
  refine (is_yes _ _ 0 _ I1.out (rint0 _) (by decide) (by decide)).mono ?_
  rintro e w1 ⟨rfl, hb⟩
  replace HB := hide (HB.out.trans (hb.mono HB.out.size))
  replace P0 := hide (P0.out.step hb)
  replace I1 := hide (I1.out.below hb)
  clear hb p0 p1
  have p0 := P0.out.cell0
  have p1 := P0.out.cell1
  go_wp2_with fail
  refine (isign_any _ 0 _ I1.out).mono ?_
  rintro e w2 ⟨rfl, hb⟩
  replace HB := hide (HB.out.trans (hb.mono HB.out.size))
  clear hb p0 p1
  rw [show sgnI 0 = 0 from rfl]
  go_wp2
  go_ret
  exact ⟨rfl, HB.out⟩
end Go.Proofs.Ythlkfiocmahmoaa

namespace Go.Proofs.Ythlkfiocmahmoaa
open Go.RowKit

theorem sgnI_ne {z : Int} (h : z ≠ 0) : (sgnI z == 0) = false := by rw [beq_eq_false_iff_ne]; unfold sgnI; split <;> (try split) <;> omega
theorem SzI.dlen7 {k : Nat} {z : Int} (h : SzI k z) (hk : 2 * k ≤ 10000000) : (D.lim z.natAbs).length ≤ 10000000 := by
  refine Nat.le_trans (D.lim_length_le (k := 2 * k) ?_) hk
  have : BB ^ k = D.BB ^ (2 * k) := bb_pow k
  unfold SzI at h
  rw [← this]; exact h
theorem ediv_abs_le (x y : Int) : (x / y).natAbs ≤ x.natAbs := Int.natAbs_ediv_le_natAbs x y
theorem SzI.ediv {k : Nat} {x : Int} (h : SzI k x) (y : Int) : SzI k (x / y) := by
  unfold SzI at *
  exact Nat.lt_of_le_of_lt (ediv_abs_le x y) h
theorem SzI.emod {k : Nat} {y : Int} (h : SzI k y) (x : Int) (hy : y ≠ 0) : SzI k (x % y) := by
  unfold SzI at *
  have h1 := Int.emod_nonneg x hy
  have h2 := Int.emod_lt x hy
  refine Nat.lt_of_le_of_lt ?_ h
  omega

set_option maxRecDepth 100000 in
set_option maxHeartbeats 20000000 in
theorem idivides_walk (b0 b1 : Bool) (a0 a1 : Option Addr) (c0 c1 : Nat) (xs ys : List Nat) (c : Int) (w : World) (h0 : Nums w (.slice a0 xs.length c0) xs) (h1 : Nums w (.slice a1 ys.length c1) ys) (hlo : -9223372036854775808 ≤ c) (hhi : c ≤ 9223372036854775807) :
    Calls Try.prog 3 #[.agg #[.bool b0, .slice a0 xs.length c0], .agg #[.bool b1, .slice a1 ys.length c1], .int .i64 c] w fun e w' => e = .returned (.bool true) ∧ Below w.heap.size w w' := by
  have hm0 := nums_len h0
  have hm1 := nums_len h1
  have HM := hide (And.intro hm0 hm1)
  unfold maxLen at hm0 hm1
  have HN0 := hide h0
  have HN1 := hide h1
  have HL := hide hlo
  have HH := hide hhi
  have SC := hide (SzI.word hlo hhi)
  clear h0 h1 hlo hhi
  have HE := hide (nboxes2 24 w (.bool b0) (.slice a0 xs.length c0) (.bool b1) (.slice a1 ys.length c1))
  have HB := hide (HE.out.2.2)
  have P0 := hide (HE.out.1)
  have P1 := hide (HE.out.2.1)
  replace HN0 := hide (HN0.out.below HE.out.2.2)
  replace HN1 := hide (HN1.out.below HE.out.2.2)
  clear HE
  go_enter Try.func3, Try.ntmps3
  go_wp2_with fail
  refine (live_any _).mono ?_
  rintro e w1 ⟨rfl, hb⟩
  replace HB := hide (HB.out.trans ((hb).mono HB.out.size))
  replace P0 := hide (P0.out.step (hb))
  replace P1 := hide (P1.out.step (hb))
  replace HN0 := hide (HN0.out.below (hb))
  replace HN1 := hide (HN1.out.below (hb))
  have p00 := P0.out.cell0
  have p01 := P0.out.cell1
  have p10 := P1.out.cell0
  have p11 := P1.out.cell1
  clear hb
  go_wp2_with fail
  refine (long_any _ [xs.length, ys.length] _ (lens_lit _ _ (by simp [maxLen]) (by
    intro i hi
    match i, hi with
    | 0, _ => exact ⟨a0, c0, by simp, HM.out.1⟩
    | 1, _ => exact ⟨a1, c1, by simp, HM.out.2⟩))).mono ?_
  rintro e w2 ⟨he, hb⟩
  clear p00 p01 p10 p11
  have hb' := (below_alloc w1 _).trans (hb.mono (by simp))
  replace HB := hide (HB.out.trans ((hb').mono HB.out.size))
  replace P0 := hide (P0.out.step (hb'))
  replace P1 := hide (P1.out.step (hb'))
  replace HN0 := hide (HN0.out.below (hb'))
  replace HN1 := hide (HN1.out.below (hb'))
  clear hb hb'
  cases hq : [xs.length, ys.length].any (fun m => decide (60 < m)) with
  | true =>
    rw [hq] at he
    subst he
    clear hq
    go_wp2
    go_ret
    exact ⟨rfl, HB.out⟩
  | false =>
  rw [hq] at he
  subst he
  obtain ⟨g0, g1⟩ : xs.length ≤ 60 ∧ ys.length ≤ 60 := by
    simp at hq; omega
  clear hq
  have SX : Hid (SzI 60 (sg b0 (val xs))) := SzI.of HN0.out.ok g0
  have SY : Hid (SzI 60 (sg b1 (val ys))) := SzI.of HN1.out.ok g1
  have GG := hide (And.intro g0 g1)
  clear g0 g1
  have p00 := P0.out.cell0
  have p01 := P0.out.cell1
  have p10 := P1.out.cell0
  have p11 := P1.out.cell1
  go_wp2_with fail
  refine (of_any b0 a0 c0 xs _ HN0.out (by have := GG.out; omega)).mono ?_
  rintro e q0 ⟨v, u, rfl, hI, hR, hb⟩
  obtain ⟨sx, nx, mx, kx, rfl, hn, he, h0⟩ := hI
  obtain ⟨sp, np, mp, kp, rfl, hn', he', h0'⟩ := hR
  clear p00 p01 p10 p11
  replace HB := hide (HB.out.trans ((hb).mono HB.out.size))
  replace P0 := hide (P0.out.step (hb))
  replace P1 := hide (P1.out.step (hb))
  replace HN0 := hide (HN0.out.below (hb))
  replace HN1 := hide (HN1.out.below (hb))
  have hI : IntAt q0 (.agg #[.bool sx, .slice mx (lim nx).length kx]) (sg b0 (val xs)) := ⟨sx, nx, mx, kx, rfl, hn, he, h0⟩
  have hR : RInt q0 (.agg #[.bool sp, .slice mp (D.lim np).length kp]) (sg b0 (val xs)) := ⟨sp, np, mp, kp, rfl, hn', he', h0'⟩
  replace HB := hide (HB.out.trans ((below_alloc q0 (.cells #[.bool sx, .slice mx (lim nx).length kx] 28)).mono HB.out.size))
  replace P0 := hide (P0.out.step (below_alloc q0 (.cells #[.bool sx, .slice mx (lim nx).length kx] 28)))
  replace P1 := hide (P1.out.step (below_alloc q0 (.cells #[.bool sx, .slice mx (lim nx).length kx] 28)))
  replace HN0 := hide (HN0.out.below (below_alloc q0 (.cells #[.bool sx, .slice mx (lim nx).length kx] 28)))
  replace HN1 := hide (HN1.out.below (below_alloc q0 (.cells #[.bool sx, .slice mx (lim nx).length kx] 28)))
  have Vx := hide (hI.var)
  have hR2 := hR.below (below_alloc q0 (.cells #[.bool sx, .slice mx (lim nx).length kx] 28))
  replace HB := hide (HB.out.trans ((below_alloc (q0.alloc (.cells #[.bool sx, .slice mx (lim nx).length kx] 28)) (.cells #[.bool sp, .slice mp (D.lim np).length kp] 30)).mono HB.out.size))
  replace P0 := hide (P0.out.step (below_alloc (q0.alloc (.cells #[.bool sx, .slice mx (lim nx).length kx] 28)) (.cells #[.bool sp, .slice mp (D.lim np).length kp] 30)))
  replace P1 := hide (P1.out.step (below_alloc (q0.alloc (.cells #[.bool sx, .slice mx (lim nx).length kx] 28)) (.cells #[.bool sp, .slice mp (D.lim np).length kp] 30)))
  replace HN0 := hide (HN0.out.below (below_alloc (q0.alloc (.cells #[.bool sx, .slice mx (lim nx).length kx] 28)) (.cells #[.bool sp, .slice mp (D.lim np).length kp] 30)))
  replace HN1 := hide (HN1.out.below (below_alloc (q0.alloc (.cells #[.bool sx, .slice mx (lim nx).length kx] 28)) (.cells #[.bool sp, .slice mp (D.lim np).length kp] 30)))
  replace Vx := hide (Vx.out.step (below_alloc (q0.alloc (.cells #[.bool sx, .slice mx (lim nx).length kx] 28)) (.cells #[.bool sp, .slice mp (D.lim np).length kp] 30)))
  have Vp := hide (hR2.var)
  rw [World.size_alloc] at Vp
  clear hb hn he h0 hn' he' h0' hI hR hR2
  have p00 := P0.out.cell0
  have p01 := P0.out.cell1
  have p10 := P1.out.cell0
  have p11 := P1.out.cell1
  go_wp2_with fail
  refine (of_any b1 a1 c1 ys _ HN1.out (by have := GG.out; omega)).mono ?_
  rintro e q1 ⟨v, u, rfl, hI, hR, hb⟩
  obtain ⟨sy, ny, my, ky, rfl, hn, he, h0⟩ := hI
  obtain ⟨sq, nq, mq, kq, rfl, hn', he', h0'⟩ := hR
  clear p00 p01 p10 p11
  replace HB := hide (HB.out.trans ((hb).mono HB.out.size))
  replace P0 := hide (P0.out.step (hb))
  replace P1 := hide (P1.out.step (hb))
  replace HN0 := hide (HN0.out.below (hb))
  replace HN1 := hide (HN1.out.below (hb))
  replace Vx := hide (Vx.out.step (hb))
  replace Vp := hide (Vp.out.step (hb))
  have hI : IntAt q1 (.agg #[.bool sy, .slice my (lim ny).length ky]) (sg b1 (val ys)) := ⟨sy, ny, my, ky, rfl, hn, he, h0⟩
  have hR : RInt q1 (.agg #[.bool sq, .slice mq (D.lim nq).length kq]) (sg b1 (val ys)) := ⟨sq, nq, mq, kq, rfl, hn', he', h0'⟩
  replace HB := hide (HB.out.trans ((below_alloc q1 (.cells #[.bool sy, .slice my (lim ny).length ky] 28)).mono HB.out.size))
  replace P0 := hide (P0.out.step (below_alloc q1 (.cells #[.bool sy, .slice my (lim ny).length ky] 28)))
  replace P1 := hide (P1.out.step (below_alloc q1 (.cells #[.bool sy, .slice my (lim ny).length ky] 28)))
  replace HN0 := hide (HN0.out.below (below_alloc q1 (.cells #[.bool sy, .slice my (lim ny).length ky] 28)))
  replace HN1 := hide (HN1.out.below (below_alloc q1 (.cells #[.bool sy, .slice my (lim ny).length ky] 28)))
  replace Vx := hide (Vx.out.step (below_alloc q1 (.cells #[.bool sy, .slice my (lim ny).length ky] 28)))
  replace Vp := hide (Vp.out.step (below_alloc q1 (.cells #[.bool sy, .slice my (lim ny).length ky] 28)))
  have Vy := hide (hI.var)
  have hR2 := hR.below (below_alloc q1 (.cells #[.bool sy, .slice my (lim ny).length ky] 28))
  replace HB := hide (HB.out.trans ((below_alloc (q1.alloc (.cells #[.bool sy, .slice my (lim ny).length ky] 28)) (.cells #[.bool sq, .slice mq (D.lim nq).length kq] 30)).mono HB.out.size))
  replace P0 := hide (P0.out.step (below_alloc (q1.alloc (.cells #[.bool sy, .slice my (lim ny).length ky] 28)) (.cells #[.bool sq, .slice mq (D.lim nq).length kq] 30)))
  replace P1 := hide (P1.out.step (below_alloc (q1.alloc (.cells #[.bool sy, .slice my (lim ny).length ky] 28)) (.cells #[.bool sq, .slice mq (D.lim nq).length kq] 30)))
  replace HN0 := hide (HN0.out.below (below_alloc (q1.alloc (.cells #[.bool sy, .slice my (lim ny).length ky] 28)) (.cells #[.bool sq, .slice mq (D.lim nq).length kq] 30)))
  replace HN1 := hide (HN1.out.below (below_alloc (q1.alloc (.cells #[.bool sy, .slice my (lim ny).length ky] 28)) (.cells #[.bool sq, .slice mq (D.lim nq).length kq] 30)))
  replace Vx := hide (Vx.out.step (below_alloc (q1.alloc (.cells #[.bool sy, .slice my (lim ny).length ky] 28)) (.cells #[.bool sq, .slice mq (D.lim nq).length kq] 30)))
  replace Vp := hide (Vp.out.step (below_alloc (q1.alloc (.cells #[.bool sy, .slice my (lim ny).length ky] 28)) (.cells #[.bool sq, .slice mq (D.lim nq).length kq] 30)))
  replace Vy := hide (Vy.out.step (below_alloc (q1.alloc (.cells #[.bool sy, .slice my (lim ny).length ky] 28)) (.cells #[.bool sq, .slice mq (D.lim nq).length kq] 30)))
  have Vq := hide (hR2.var)
  rw [World.size_alloc] at Vq
  clear hb hn he h0 hn' he' h0' hI hR hR2
  clear P0
  clear P1
  clear HN0
  clear HN1
  clear GG
  go_upto_region 7 with fail
  generalize sg b0 (val xs) = X at *
  generalize sg b1 (val ys) = Y at *
  generalize q0.heap.size = gx at *
  generalize q1.heap.size = gy at *
  generalize (q1.alloc (.cells #[.bool sy, .slice my (lim ny).length ky] 28)).alloc (.cells #[.bool sq, .slice mq (D.lim nq).length kq] 30) = w7 at *
  generalize (lim nx).length = lx at *
  generalize (lim ny).length = ly at *
  generalize (D.lim np).length = lp at *
  generalize (D.lim nq).length = lq at *
  by_cases hY : Y = 0
  · have SG : sgnI Y = 0 := by rw [hY]; rfl
    subst hY
    have x0 := Vx.out.box.cell0
    have x1 := Vx.out.box.cell1
    have y0 := Vy.out.box.cell0
    have y1 := Vy.out.box.cell1
    go_wp2_with fail
    refine (idivmod_zero _ _ X _ Vx.out.int Vy.out.int).mono ?_
    rintro e r1 ⟨v, u, rfl, nq', nr', hb⟩
    obtain ⟨sa, ma, la, ka, rfl, nq'⟩ := nq'.cells
    obtain ⟨sd, md, ld, kd, rfl, nr'⟩ := nr'.cells
    clear x0 x1 y0 y1
    replace HB := hide (HB.out.trans ((hb).mono HB.out.size))
    replace Vx := hide (Vx.out.step (hb))
    replace Vp := hide (Vp.out.step (hb))
    replace Vy := hide (Vy.out.step (hb))
    replace Vq := hide (Vq.out.step (hb))
    have TQ := hide (nq')
    have TR := hide (nr')
    clear hb nq' nr'
    go_upto_region 8 with fail
    replace HB := hide (HB.out.trans ((below_alloc r1 (.cells #[.bool sa, .slice ma la ka] 28)).mono HB.out.size))
    replace Vx := hide (Vx.out.step (below_alloc r1 (.cells #[.bool sa, .slice ma la ka] 28)))
    replace Vp := hide (Vp.out.step (below_alloc r1 (.cells #[.bool sa, .slice ma la ka] 28)))
    replace Vy := hide (Vy.out.step (below_alloc r1 (.cells #[.bool sa, .slice ma la ka] 28)))
    replace Vq := hide (Vq.out.step (below_alloc r1 (.cells #[.bool sa, .slice ma la ka] 28)))
    replace TQ := hide (TQ.out.below (below_alloc r1 (.cells #[.bool sa, .slice ma la ka] 28)))
    replace TR := hide (TR.out.below (below_alloc r1 (.cells #[.bool sa, .slice ma la ka] 28)))
    have BQ := hide (Box.new r1 (.bool sa) (.slice ma la ka))
    replace HB := hide (HB.out.trans ((below_alloc (r1.alloc (.cells #[.bool sa, .slice ma la ka] 28)) (.cells #[.bool sd, .slice md ld kd] 28)).mono HB.out.size))
    replace Vx := hide (Vx.out.step (below_alloc (r1.alloc (.cells #[.bool sa, .slice ma la ka] 28)) (.cells #[.bool sd, .slice md ld kd] 28)))
    replace Vp := hide (Vp.out.step (below_alloc (r1.alloc (.cells #[.bool sa, .slice ma la ka] 28)) (.cells #[.bool sd, .slice md ld kd] 28)))
    replace Vy := hide (Vy.out.step (below_alloc (r1.alloc (.cells #[.bool sa, .slice ma la ka] 28)) (.cells #[.bool sd, .slice md ld kd] 28)))
    replace Vq := hide (Vq.out.step (below_alloc (r1.alloc (.cells #[.bool sa, .slice ma la ka] 28)) (.cells #[.bool sd, .slice md ld kd] 28)))
    replace TQ := hide (TQ.out.below (below_alloc (r1.alloc (.cells #[.bool sa, .slice ma la ka] 28)) (.cells #[.bool sd, .slice md ld kd] 28)))
    replace TR := hide (TR.out.below (below_alloc (r1.alloc (.cells #[.bool sa, .slice ma la ka] 28)) (.cells #[.bool sd, .slice md ld kd] 28)))
    replace BQ := hide (BQ.out.step (below_alloc (r1.alloc (.cells #[.bool sa, .slice ma la ka] 28)) (.cells #[.bool sd, .slice md ld kd] 28)))
    have BR := hide (Box.new (r1.alloc (.cells #[.bool sa, .slice ma la ka] 28)) (.bool sd) (.slice md ld kd))
    rw [World.size_alloc] at BR
    generalize (r1.alloc (.cells #[.bool sa, .slice ma la ka] 28)).alloc (.cells #[.bool sd, .slice md ld kd] 28) = r2 at *
    generalize r1.heap.size = ga at *
    have d0 := Vq.out.box.cell0
    have d1 := Vq.out.box.cell1
    go_wp2_with fail
    refine (rsign_any _ 0 _ Vq.out.int).mono ?_
    rintro e r3 ⟨rfl, hb⟩
    clear d0 d1
    replace HB := hide (HB.out.trans ((hb).mono HB.out.size))
    replace Vx := hide (Vx.out.step (hb))
    replace Vp := hide (Vp.out.step (hb))
    replace Vy := hide (Vy.out.step (hb))
    replace Vq := hide (Vq.out.step (hb))
    replace TQ := hide (TQ.out.below (hb))
    replace TR := hide (TR.out.below (hb))
    replace BQ := hide (BQ.out.step (hb))
    replace BR := hide (BR.out.step (hb))
    clear hb
    rw [SG]
    clear SG
    have e0 := BQ.out.cell0
    have e1 := BQ.out.cell1
    go_wp2_with fail
    refine (zero_yes _ _ TQ.out).mono ?_
    rintro e r4 ⟨rfl, hb⟩
    clear e0 e1
    replace HB := hide (HB.out.trans ((hb).mono HB.out.size))
    replace Vx := hide (Vx.out.step (hb))
    replace Vp := hide (Vp.out.step (hb))
    replace Vy := hide (Vy.out.step (hb))
    replace Vq := hide (Vq.out.step (hb))
    replace TQ := hide (TQ.out.below (hb))
    replace TR := hide (TR.out.below (hb))
    replace BQ := hide (BQ.out.step (hb))
    replace BR := hide (BR.out.step (hb))
    clear hb
    have e0 := BR.out.cell0
    have e1 := BR.out.cell1
    go_wp2_with fail
    refine (zero_yes _ _ TR.out).mono ?_
    rintro e r5 ⟨rfl, hb⟩
    clear e0 e1
    replace HB := hide (HB.out.trans ((hb).mono HB.out.size))
    replace Vx := hide (Vx.out.step (hb))
    replace Vp := hide (Vp.out.step (hb))
    replace Vy := hide (Vy.out.step (hb))
    replace Vq := hide (Vq.out.step (hb))
    replace TQ := hide (TQ.out.below (hb))
    replace TR := hide (TR.out.below (hb))
    replace BQ := hide (BQ.out.step (hb))
    replace BR := hide (BR.out.step (hb))
    clear hb
    clear TQ
    clear TR
    clear BQ
    clear BR
    clear Vq
    clear Vy
    have sv0 := hide SX.out
    clear sv0
    have x0 := Vx.out.box.cell0
    have x1 := Vx.out.box.cell1
    go_wp2_with fail
    refine (iover_any _ X c _ Vx.out.int (SzI.len SX.out (by decide)) HL.out HH.out).mono ?_
    rintro e t1 ⟨v, zo, fo, rfl, nO, hov, hb⟩
    obtain ⟨so, mo, lo, ko, rfl, nO⟩ := nO.cells
    clear x0 x1
    replace HB := hide (HB.out.trans ((hb).mono HB.out.size))
    replace Vx := hide (Vx.out.step (hb))
    replace Vp := hide (Vp.out.step (hb))
    have TO := hide (nO)
    have HOV := hide hov
    clear hb nO hov
    go_upto_region 15 with fail
    replace HB := hide (HB.out.trans ((below_alloc t1 (.cells #[.bool so, .slice mo lo ko] 28)).mono HB.out.size))
    replace Vx := hide (Vx.out.step (below_alloc t1 (.cells #[.bool so, .slice mo lo ko] 28)))
    replace Vp := hide (Vp.out.step (below_alloc t1 (.cells #[.bool so, .slice mo lo ko] 28)))
    replace TO := hide (TO.out.below (below_alloc t1 (.cells #[.bool so, .slice mo lo ko] 28)))
    have BO := hide (Box.new t1 (.bool so) (.slice mo lo ko))
    generalize t1.alloc (.cells #[.bool so, .slice mo lo ko] 28) = t2 at *
    generalize t1.heap.size = go at *
    rcases HOV.out with ⟨hc, rfl, rfl⟩ | ⟨hc, hm, rfl, rfl⟩ | ⟨hc, hm, rfl, rfl⟩
    · subst hc
      have o0 := BO.out.cell0
      have o1 := BO.out.cell1
      go_wp2_with fail
      refine (zero_yes _ _ TO.out).mono ?_
      rintro e t3 ⟨rfl, hb⟩
      clear o0 o1
      replace HB := hide (HB.out.trans ((hb).mono HB.out.size))
      replace Vx := hide (Vx.out.step (hb))
      replace Vp := hide (Vp.out.step (hb))
      replace TO := hide (TO.out.below (hb))
      replace BO := hide (BO.out.step (hb))
      clear hb
      go_wp2_with fail
      refine (live_any _).mono ?_
      rintro e t4 ⟨rfl, hb⟩
      replace HB := hide (HB.out.trans ((hb).mono HB.out.size))
      replace Vx := hide (Vx.out.step (hb))
      replace Vp := hide (Vp.out.step (hb))
      replace TO := hide (TO.out.below (hb))
      replace BO := hide (BO.out.step (hb))
      clear hb
      go_wp2
      go_ret
      exact ⟨rfl, HB.out⟩
    · have HC := hide hc
      have HZ := hide hm
      have hcb : (c == 0) = false := by rw [beq_eq_false_iff_ne]; exact hc
      clear hm hc
      go_wp2_with fail
      clear hcb
      go_cut [18, 19] from 97 (fun pw bv wx => ∃ gg sw mw lw kw, pw = .pointer (some ⟨gg, 0, none⟩) ∧ bv = .bool false ∧ Below w.heap.size w wx ∧ RVar wx (gx + 1) sp mp lp kp X ∧ Box wx go (.bool so) (.slice mo lo ko) ∧ Var wx gx sx mx lx kx X ∧ IntAt wx (.agg #[.bool so, .slice mo lo ko]) 0 ∧ Box2 wx gg 30 (.bool sw) (.slice mw lw kw) ∧ RInt wx (.agg #[.bool sw, .slice mw lw kw]) 0)
      case first =>
        refine wp_calm (fun w' => Below w.heap.size w w' ∧ Box2 w' (gx + 1) 30 (.bool sp) (.slice mp lp kp) ∧ RInt w' (.agg #[.bool sp, .slice mp lp kp]) X ∧ Box w' go (.bool so) (.slice mo lo ko) ∧ Box w' gx (.bool sx) (.slice mx lx kx) ∧ IntAt w' (.agg #[.bool sx, .slice mx lx kx]) X ∧ IntAt w' (.agg #[.bool so, .slice mo lo ko]) 0) (fun _ => true) 10 #[false, false, false, false, false, false, false, false, false, false] (by kernel_rfl) rfl rfl ?_
        have HF := hide (And.intro (HB.out.drew) (And.intro (Vp.out.box.drew) (And.intro (Vp.out.int.drew) (And.intro (BO.out.drew) (And.intro (Vx.out.box.drew) (And.intro (Vx.out.int.drew) (TO.out.drew)))))))
        generalize t2.drew = t2d at *
        refine Calm.take (i := 0) (v := ?_) (a' := ?_) (l' := #[true, false, false, false, false, false, false, false, false, false]) (d := some 98) rfl (by kernel_rfl) (by kernel_rfl) (by kernel_rfl) (by kernel_rfl) (fun _ _ _ h => h) HF.out rfl ?_ rfl rfl ?_ ?_
        rotate_left
        · intro w' hF; have f10 := hF.2.1.cell0; have f11 := hF.2.1.cell1; have f30 := hF.2.2.2.1.cell0; have f31 := hF.2.2.2.1.cell1; have f40 := hF.2.2.2.2.1.cell0; have f41 := hF.2.2.2.2.1.cell1; clear hF; go_simp; try rfl
        rotate_left
        · simp only [Act.put]; exact rfl
        refine Calm.take (i := 1) (v := ?_) (a' := ?_) (l' := #[true, true, false, false, false, false, false, false, false, false]) (d := some 99) rfl (by kernel_rfl) (by kernel_rfl) (by kernel_rfl) (by kernel_rfl) (fun _ _ _ h => h) HF.out rfl ?_ rfl rfl ?_ ?_
        rotate_left
        · intro w' hF; clear hF; go_simp; try rfl
        rotate_left
        · simp only [Act.put]; exact rfl
        refine Calm.two (i := 2) (j := 7) (l := #[true, true, true, false, false, false, false, false, false, false]) (l' := #[true, true, false, false, false, false, false, true, false, false]) (by kernel_rfl) rfl rfl rfl rfl rfl rfl (fun K hK => ?_) (fun K hK => ?_)
        · go_simp
          refine (rof_any c _ HL.out HH.out).mono ?_
          rintro e t3 ⟨v, rfl, n, hb⟩
          have HF' := hide (And.intro (HF.out.1.trans ((hb).mono HF.out.1.size)) (And.intro (HF.out.2.1.step (hb)) (And.intro (HF.out.2.2.1.below (hb)) (And.intro (HF.out.2.2.2.1.step (hb)) (And.intro (HF.out.2.2.2.2.1.step (hb)) (And.intro (HF.out.2.2.2.2.2.1.below (hb)) (HF.out.2.2.2.2.2.2.below (hb))))))))
          have TC := hide (n)
          refine hK _ _ (fun _ => HF'.out) ?_
          clear hK K HF hb n
          have HF := hide HF'.out
          clear HF'
          refine Calm.two (i := 3) (j := 7) (l := #[true, true, true, true, false, false, false, false, false, false]) (l' := #[true, true, true, false, false, false, false, true, false, false]) (by kernel_rfl) rfl rfl rfl rfl rfl rfl (fun K hK => ?_) (fun K hK => ?_)
          · go_simp
            refine (rover_any _ _ X c _ HF.out.2.2.1 TC.out (SzI.dlen7 SX.out (by decide)) (SzI.dlen7 SC.out (by decide)) HC.out).mono ?_
            rintro e t4 ⟨v, z, bb, rfl, n, hor, hb⟩
            obtain ⟨rfl, rfl⟩ : z = 0 ∧ bb = false := by rcases hor with ⟨_, h2, h3⟩ | ⟨h1, _⟩; exact ⟨h2, h3⟩; exact absurd h1 HZ.out
            obtain ⟨sw, mw, lw, kw, rfl, n⟩ := n.cells
            clear TC
            have HF' := hide (And.intro (HF.out.1.trans ((hb).mono HF.out.1.size)) (And.intro (HF.out.2.1.step (hb)) (And.intro (HF.out.2.2.1.below (hb)) (And.intro (HF.out.2.2.2.1.step (hb)) (And.intro (HF.out.2.2.2.2.1.step (hb)) (And.intro (HF.out.2.2.2.2.2.1.below (hb)) (HF.out.2.2.2.2.2.2.below (hb))))))))
            have TW := hide (n)
            refine hK _ _ (fun _ => HF'.out) ?_
            clear hK K HF hb n hor
            have HF := hide HF'.out
            clear HF'
            refine Calm.take (i := 4) (v := ?_) (a' := ?_) (l' := #[true, true, true, true, true, false, false, false, false, false]) (d := some 97) rfl (by kernel_rfl) (by kernel_rfl) (by kernel_rfl) (by kernel_rfl) (fun _ _ _ h => h) HF.out rfl ?_ rfl rfl ?_ ?_
            rotate_left
            · intro w' hF; clear hF; go_simp; try rfl
            rotate_left
            · simp only [Act.put]; exact rfl
            refine Calm.take (i := 5) (v := ?_) (a' := ?_) (l' := #[true, true, true, true, true, true, false, false, false, false]) (d := some 102) rfl (by kernel_rfl) (by kernel_rfl) (by kernel_rfl) (by kernel_rfl) (fun _ _ _ h => h) HF.out rfl ?_ rfl rfl ?_ ?_
            rotate_left
            · intro w' hF; clear hF; go_simp; try rfl
            rotate_left
            · simp only [Act.put]; exact rfl
            refine Calm.take (i := 6) (v := ?_) (a' := ?_) (l' := #[true, true, true, true, true, true, true, false, false, false]) (d := some 103) rfl (by kernel_rfl) (by kernel_rfl) (by kernel_rfl) (by kernel_rfl) (fun _ _ _ h => h) HF.out rfl ?_ rfl rfl ?_ ?_
            rotate_left
            · intro w' hF; clear hF; go_simp; try rfl
            rotate_left
            · simp only [Act.put]; exact rfl
            refine Calm.one (i := 7) (l' := #[true, true, true, true, true, true, true, true, false, false]) (by kernel_rfl) rfl rfl rfl fun K hK => ?_
            go_simp
            have al := below_alloc t4 (.cells #[.bool false, .slice none 0 0] 30)
            have HF' := hide (And.intro (HF.out.1.trans ((al).mono HF.out.1.size)) (And.intro (HF.out.2.1.step (al)) (And.intro (HF.out.2.2.1.below (al)) (And.intro (HF.out.2.2.2.1.step (al)) (And.intro (HF.out.2.2.2.2.1.step (al)) (And.intro (HF.out.2.2.2.2.2.1.below (al)) (HF.out.2.2.2.2.2.2.below (al))))))))
            have BXg := hide (Box2.new t4 30 (.bool false) (.slice none 0 0))
            replace TW := hide (TW.out.below (al))
            have LT1g := hide (HF.out.2.1.lt)
            have LT3g := hide (HF.out.2.2.2.1.lt)
            have LT4g := hide (HF.out.2.2.2.2.1.lt)
            have GEg := hide (HF.out.1.size)
            refine hK _ _ (fun _ => HF'.out) ?_
            clear hK K HF al
            have HF := hide HF'.out
            clear HF'
            generalize t4.alloc (.cells #[.bool false, .slice none 0 0] 30) = wzg at *
            generalize t4.heap.size = gg at *
            refine Calm.one (i := 8) (l' := #[true, true, true, true, true, true, true, true, true, false]) (by kernel_rfl) rfl rfl rfl fun K hK => ?_
            have LTS := hide (And.intro LT1g.out (And.intro LT3g.out (And.intro LT4g.out GEg.out)))
            have hc0 := BXg.out.cell0
            have hc1 := BXg.out.cell1
            have hf0 := BXg.out.free 0
            have hf1 := BXg.out.free 1
            go_simp
            have HF' := hide (And.intro (below_put HF.out.1 (show w.heap.size ≤ gg by have hx := LTS.out; omega) (.bool sw) (.slice mw lw kw)) (And.intro (HF.out.2.1.other (C := gg) (by have hx := LTS.out; omega) (.bool sw) (.slice mw lw kw)) (And.intro (HF.out.2.2.1.keep (BXg.out.keeps (by simp) (by simp) (.bool sw) (.slice mw lw kw))) (And.intro (HF.out.2.2.2.1.other (C := gg) (by have hx := LTS.out; omega) (.bool sw) (.slice mw lw kw)) (And.intro (HF.out.2.2.2.2.1.other (C := gg) (by have hx := LTS.out; omega) (.bool sw) (.slice mw lw kw)) (And.intro (HF.out.2.2.2.2.2.1.keep (BXg.out.keeps (by simp) (by simp) (.bool sw) (.slice mw lw kw))) (HF.out.2.2.2.2.2.2.keep (BXg.out.keeps (by simp) (by simp) (.bool sw) (.slice mw lw kw)))))))))
            replace TW := hide (TW.out.keep (BXg.out.keeps (by simp) (by simp) (.bool sw) (.slice mw lw kw)))
            replace BXg := hide (BXg.out.put (.bool sw) (.slice mw lw kw))
            refine hK _ _ (fun _ => HF'.out) ?_
            clear hK K HF hc0 hf0 hc1 hf1
            have HF := hide HF'.out
            clear HF'
            generalize ((wzg.setCell ⟨gg, 0, none⟩ (.bool sw)).setCell ⟨gg, 1, none⟩ (.slice mw lw kw)) = ws1 at *
            refine Calm.take (i := 9) (v := ?_) (a' := ?_) (l' := #[true, true, true, true, true, true, true, true, true, true]) (d := some 19) rfl (by kernel_rfl) (by kernel_rfl) (by kernel_rfl) (by kernel_rfl) (fun _ _ _ h => h) HF.out rfl ?_ rfl rfl ?_ ?_
            rotate_left
            · intro w' hF; clear hF; go_simp; try rfl
            rotate_left
            · simp only [Act.put]; exact rfl
            refine Calm.done (by kernel_rfl) ?_
            go_wp2
            go_meet
            case rel => exact ⟨gg, sw, mw, lw, kw, rfl, rfl, HF.out.1, ⟨HF.out.2.1, HF.out.2.2.1⟩, HF.out.2.2.2.1, ⟨HF.out.2.2.2.2.1, HF.out.2.2.2.2.2.1⟩, HF.out.2.2.2.2.2.2, BXg.out, TW.out⟩
          · go_simp
            have al := below_alloc t3 (.cells #[.bool false, .slice none 0 0] 30)
            have HF' := hide (And.intro (HF.out.1.trans ((al).mono HF.out.1.size)) (And.intro (HF.out.2.1.step (al)) (And.intro (HF.out.2.2.1.below (al)) (And.intro (HF.out.2.2.2.1.step (al)) (And.intro (HF.out.2.2.2.2.1.step (al)) (And.intro (HF.out.2.2.2.2.2.1.below (al)) (HF.out.2.2.2.2.2.2.below (al))))))))
            have BXg := hide (Box2.new t3 30 (.bool false) (.slice none 0 0))
            replace TC := hide (TC.out.below (al))
            have LT1g := hide (HF.out.2.1.lt)
            have LT3g := hide (HF.out.2.2.2.1.lt)
            have LT4g := hide (HF.out.2.2.2.2.1.lt)
            have GEg := hide (HF.out.1.size)
            refine hK _ _ (fun _ => HF'.out) ?_
            clear hK K HF al
            have HF := hide HF'.out
            clear HF'
            generalize t3.alloc (.cells #[.bool false, .slice none 0 0] 30) = wzg at *
            generalize t3.heap.size = gg at *
            refine Calm.one (i := 3) (l' := #[true, true, true, true, false, false, false, true, false, false]) (by kernel_rfl) rfl rfl rfl fun K hK => ?_
            go_simp
            refine (rover_any _ _ X c _ HF.out.2.2.1 TC.out (SzI.dlen7 SX.out (by decide)) (SzI.dlen7 SC.out (by decide)) HC.out).mono ?_
            rintro e t4 ⟨v, z, bb, rfl, n, hor, hb⟩
            obtain ⟨rfl, rfl⟩ : z = 0 ∧ bb = false := by rcases hor with ⟨_, h2, h3⟩ | ⟨h1, _⟩; exact ⟨h2, h3⟩; exact absurd h1 HZ.out
            obtain ⟨sw, mw, lw, kw, rfl, n⟩ := n.cells
            clear TC
            replace BXg := hide (BXg.out.step hb)
            have HF' := hide (And.intro (HF.out.1.trans ((hb).mono HF.out.1.size)) (And.intro (HF.out.2.1.step (hb)) (And.intro (HF.out.2.2.1.below (hb)) (And.intro (HF.out.2.2.2.1.step (hb)) (And.intro (HF.out.2.2.2.2.1.step (hb)) (And.intro (HF.out.2.2.2.2.2.1.below (hb)) (HF.out.2.2.2.2.2.2.below (hb))))))))
            have TW := hide (n)
            refine hK _ _ (fun _ => HF'.out) ?_
            clear hK K HF hb n hor
            have HF := hide HF'.out
            clear HF'
            refine Calm.take (i := 4) (v := ?_) (a' := ?_) (l' := #[true, true, true, true, true, false, false, true, false, false]) (d := some 97) rfl (by kernel_rfl) (by kernel_rfl) (by kernel_rfl) (by kernel_rfl) (fun _ _ _ h => h) HF.out rfl ?_ rfl rfl ?_ ?_
            rotate_left
            · intro w' hF; clear hF; go_simp; try rfl
            rotate_left
            · simp only [Act.put]; exact rfl
            refine Calm.take (i := 5) (v := ?_) (a' := ?_) (l' := #[true, true, true, true, true, true, false, true, false, false]) (d := some 102) rfl (by kernel_rfl) (by kernel_rfl) (by kernel_rfl) (by kernel_rfl) (fun _ _ _ h => h) HF.out rfl ?_ rfl rfl ?_ ?_
            rotate_left
            · intro w' hF; clear hF; go_simp; try rfl
            rotate_left
            · simp only [Act.put]; exact rfl
            refine Calm.take (i := 6) (v := ?_) (a' := ?_) (l' := #[true, true, true, true, true, true, true, true, false, false]) (d := some 103) rfl (by kernel_rfl) (by kernel_rfl) (by kernel_rfl) (by kernel_rfl) (fun _ _ _ h => h) HF.out rfl ?_ rfl rfl ?_ ?_
            rotate_left
            · intro w' hF; clear hF; go_simp; try rfl
            rotate_left
            · simp only [Act.put]; exact rfl
            refine Calm.one (i := 8) (l' := #[true, true, true, true, true, true, true, true, true, false]) (by kernel_rfl) rfl rfl rfl fun K hK => ?_
            have LTS := hide (And.intro LT1g.out (And.intro LT3g.out (And.intro LT4g.out GEg.out)))
            have hc0 := BXg.out.cell0
            have hc1 := BXg.out.cell1
            have hf0 := BXg.out.free 0
            have hf1 := BXg.out.free 1
            go_simp
            have HF' := hide (And.intro (below_put HF.out.1 (show w.heap.size ≤ gg by have hx := LTS.out; omega) (.bool sw) (.slice mw lw kw)) (And.intro (HF.out.2.1.other (C := gg) (by have hx := LTS.out; omega) (.bool sw) (.slice mw lw kw)) (And.intro (HF.out.2.2.1.keep (BXg.out.keeps (by simp) (by simp) (.bool sw) (.slice mw lw kw))) (And.intro (HF.out.2.2.2.1.other (C := gg) (by have hx := LTS.out; omega) (.bool sw) (.slice mw lw kw)) (And.intro (HF.out.2.2.2.2.1.other (C := gg) (by have hx := LTS.out; omega) (.bool sw) (.slice mw lw kw)) (And.intro (HF.out.2.2.2.2.2.1.keep (BXg.out.keeps (by simp) (by simp) (.bool sw) (.slice mw lw kw))) (HF.out.2.2.2.2.2.2.keep (BXg.out.keeps (by simp) (by simp) (.bool sw) (.slice mw lw kw)))))))))
            replace TW := hide (TW.out.keep (BXg.out.keeps (by simp) (by simp) (.bool sw) (.slice mw lw kw)))
            replace BXg := hide (BXg.out.put (.bool sw) (.slice mw lw kw))
            refine hK _ _ (fun _ => HF'.out) ?_
            clear hK K HF hc0 hf0 hc1 hf1
            have HF := hide HF'.out
            clear HF'
            generalize ((t4.setCell ⟨gg, 0, none⟩ (.bool sw)).setCell ⟨gg, 1, none⟩ (.slice mw lw kw)) = ws1 at *
            refine Calm.take (i := 9) (v := ?_) (a' := ?_) (l' := #[true, true, true, true, true, true, true, true, true, true]) (d := some 19) rfl (by kernel_rfl) (by kernel_rfl) (by kernel_rfl) (by kernel_rfl) (fun _ _ _ h => h) HF.out rfl ?_ rfl rfl ?_ ?_
            rotate_left
            · intro w' hF; clear hF; go_simp; try rfl
            rotate_left
            · simp only [Act.put]; exact rfl
            refine Calm.done (by kernel_rfl) ?_
            go_wp2
            go_meet
            case rel => exact ⟨gg, sw, mw, lw, kw, rfl, rfl, HF.out.1, ⟨HF.out.2.1, HF.out.2.2.1⟩, HF.out.2.2.2.1, ⟨HF.out.2.2.2.2.1, HF.out.2.2.2.2.2.1⟩, HF.out.2.2.2.2.2.2, BXg.out, TW.out⟩
        · go_simp
          have al := below_alloc t2d (.cells #[.bool false, .slice none 0 0] 30)
          have HF' := hide (And.intro (HF.out.1.trans ((al).mono HF.out.1.size)) (And.intro (HF.out.2.1.step (al)) (And.intro (HF.out.2.2.1.below (al)) (And.intro (HF.out.2.2.2.1.step (al)) (And.intro (HF.out.2.2.2.2.1.step (al)) (And.intro (HF.out.2.2.2.2.2.1.below (al)) (HF.out.2.2.2.2.2.2.below (al))))))))
          have BXg := hide (Box2.new t2d 30 (.bool false) (.slice none 0 0))
          have LT1g := hide (HF.out.2.1.lt)
          have LT3g := hide (HF.out.2.2.2.1.lt)
          have LT4g := hide (HF.out.2.2.2.2.1.lt)
          have GEg := hide (HF.out.1.size)
          refine hK _ _ (fun _ => HF'.out) ?_
          clear hK K HF al
          have HF := hide HF'.out
          clear HF'
          generalize t2d.alloc (.cells #[.bool false, .slice none 0 0] 30) = wzg at *
          generalize t2d.heap.size = gg at *
          refine Calm.one (i := 2) (l' := #[true, true, true, false, false, false, false, true, false, false]) (by kernel_rfl) rfl rfl rfl fun K hK => ?_
          go_simp
          refine (rof_any c _ HL.out HH.out).mono ?_
          rintro e t3 ⟨v, rfl, n, hb⟩
          replace BXg := hide (BXg.out.step hb)
          have HF' := hide (And.intro (HF.out.1.trans ((hb).mono HF.out.1.size)) (And.intro (HF.out.2.1.step (hb)) (And.intro (HF.out.2.2.1.below (hb)) (And.intro (HF.out.2.2.2.1.step (hb)) (And.intro (HF.out.2.2.2.2.1.step (hb)) (And.intro (HF.out.2.2.2.2.2.1.below (hb)) (HF.out.2.2.2.2.2.2.below (hb))))))))
          have TC := hide (n)
          refine hK _ _ (fun _ => HF'.out) ?_
          clear hK K HF hb n
          have HF := hide HF'.out
          clear HF'
          refine Calm.one (i := 3) (l' := #[true, true, true, true, false, false, false, true, false, false]) (by kernel_rfl) rfl rfl rfl fun K hK => ?_
          go_simp
          refine (rover_any _ _ X c _ HF.out.2.2.1 TC.out (SzI.dlen7 SX.out (by decide)) (SzI.dlen7 SC.out (by decide)) HC.out).mono ?_
          rintro e t4 ⟨v, z, bb, rfl, n, hor, hb⟩
          obtain ⟨rfl, rfl⟩ : z = 0 ∧ bb = false := by rcases hor with ⟨_, h2, h3⟩ | ⟨h1, _⟩; exact ⟨h2, h3⟩; exact absurd h1 HZ.out
          obtain ⟨sw, mw, lw, kw, rfl, n⟩ := n.cells
          clear TC
          replace BXg := hide (BXg.out.step hb)
          have HF' := hide (And.intro (HF.out.1.trans ((hb).mono HF.out.1.size)) (And.intro (HF.out.2.1.step (hb)) (And.intro (HF.out.2.2.1.below (hb)) (And.intro (HF.out.2.2.2.1.step (hb)) (And.intro (HF.out.2.2.2.2.1.step (hb)) (And.intro (HF.out.2.2.2.2.2.1.below (hb)) (HF.out.2.2.2.2.2.2.below (hb))))))))
          have TW := hide (n)
          refine hK _ _ (fun _ => HF'.out) ?_
          clear hK K HF hb n hor
          have HF := hide HF'.out
          clear HF'
          refine Calm.take (i := 4) (v := ?_) (a' := ?_) (l' := #[true, true, true, true, true, false, false, true, false, false]) (d := some 97) rfl (by kernel_rfl) (by kernel_rfl) (by kernel_rfl) (by kernel_rfl) (fun _ _ _ h => h) HF.out rfl ?_ rfl rfl ?_ ?_
          rotate_left
          · intro w' hF; clear hF; go_simp; try rfl
          rotate_left
          · simp only [Act.put]; exact rfl
          refine Calm.take (i := 5) (v := ?_) (a' := ?_) (l' := #[true, true, true, true, true, true, false, true, false, false]) (d := some 102) rfl (by kernel_rfl) (by kernel_rfl) (by kernel_rfl) (by kernel_rfl) (fun _ _ _ h => h) HF.out rfl ?_ rfl rfl ?_ ?_
          rotate_left
          · intro w' hF; clear hF; go_simp; try rfl
          rotate_left
          · simp only [Act.put]; exact rfl
          refine Calm.take (i := 6) (v := ?_) (a' := ?_) (l' := #[true, true, true, true, true, true, true, true, false, false]) (d := some 103) rfl (by kernel_rfl) (by kernel_rfl) (by kernel_rfl) (by kernel_rfl) (fun _ _ _ h => h) HF.out rfl ?_ rfl rfl ?_ ?_
          rotate_left
          · intro w' hF; clear hF; go_simp; try rfl
          rotate_left
          · simp only [Act.put]; exact rfl
          refine Calm.one (i := 8) (l' := #[true, true, true, true, true, true, true, true, true, false]) (by kernel_rfl) rfl rfl rfl fun K hK => ?_
          have LTS := hide (And.intro LT1g.out (And.intro LT3g.out (And.intro LT4g.out GEg.out)))
          have hc0 := BXg.out.cell0
          have hc1 := BXg.out.cell1
          have hf0 := BXg.out.free 0
          have hf1 := BXg.out.free 1
          go_simp
          have HF' := hide (And.intro (below_put HF.out.1 (show w.heap.size ≤ gg by have hx := LTS.out; omega) (.bool sw) (.slice mw lw kw)) (And.intro (HF.out.2.1.other (C := gg) (by have hx := LTS.out; omega) (.bool sw) (.slice mw lw kw)) (And.intro (HF.out.2.2.1.keep (BXg.out.keeps (by simp) (by simp) (.bool sw) (.slice mw lw kw))) (And.intro (HF.out.2.2.2.1.other (C := gg) (by have hx := LTS.out; omega) (.bool sw) (.slice mw lw kw)) (And.intro (HF.out.2.2.2.2.1.other (C := gg) (by have hx := LTS.out; omega) (.bool sw) (.slice mw lw kw)) (And.intro (HF.out.2.2.2.2.2.1.keep (BXg.out.keeps (by simp) (by simp) (.bool sw) (.slice mw lw kw))) (HF.out.2.2.2.2.2.2.keep (BXg.out.keeps (by simp) (by simp) (.bool sw) (.slice mw lw kw)))))))))
          replace TW := hide (TW.out.keep (BXg.out.keeps (by simp) (by simp) (.bool sw) (.slice mw lw kw)))
          replace BXg := hide (BXg.out.put (.bool sw) (.slice mw lw kw))
          refine hK _ _ (fun _ => HF'.out) ?_
          clear hK K HF hc0 hf0 hc1 hf1
          have HF := hide HF'.out
          clear HF'
          generalize ((t4.setCell ⟨gg, 0, none⟩ (.bool sw)).setCell ⟨gg, 1, none⟩ (.slice mw lw kw)) = ws1 at *
          refine Calm.take (i := 9) (v := ?_) (a' := ?_) (l' := #[true, true, true, true, true, true, true, true, true, true]) (d := some 19) rfl (by kernel_rfl) (by kernel_rfl) (by kernel_rfl) (by kernel_rfl) (fun _ _ _ h => h) HF.out rfl ?_ rfl rfl ?_ ?_
          rotate_left
          · intro w' hF; clear hF; go_simp; try rfl
          rotate_left
          · simp only [Act.put]; exact rfl
          refine Calm.done (by kernel_rfl) ?_
          go_wp2
          go_meet
          case rel => exact ⟨gg, sw, mw, lw, kw, rfl, rfl, HF.out.1, ⟨HF.out.2.1, HF.out.2.2.1⟩, HF.out.2.2.2.1, ⟨HF.out.2.2.2.2.1, HF.out.2.2.2.2.2.1⟩, HF.out.2.2.2.2.2.2, BXg.out, TW.out⟩
      case rest =>
      obtain ⟨gg, sw, mw, lw, kw, rfl, rfl, hB, hP, hO, hX, hI, hW, hR⟩ := hcut
      clear HB Vp BO Vx TO
      have HB := hide hB
      have Vp := hide hP
      have BO := hide hO
      have Vx := hide hX
      have TO := hide hI
      have BW := hide hW
      have TW := hide hR
      clear hB hP hO hX hI hW hR
      generalize hwc : wc = t5 at *
      clear hwc
      have o0 := BO.out.cell0
      have o1 := BO.out.cell1
      go_wp2_with fail
      refine (zero_yes _ _ TO.out).mono ?_
      rintro e t6 ⟨rfl, hb⟩
      clear o0 o1
      replace HB := hide (HB.out.trans ((hb).mono HB.out.size))
      replace Vp := hide (Vp.out.step (hb))
      replace BO := hide (BO.out.step (hb))
      replace Vx := hide (Vx.out.step (hb))
      replace TO := hide (TO.out.below (hb))
      replace BW := hide (BW.out.step (hb))
      replace TW := hide (TW.out.below (hb))
      clear hb
      go_wp2_with fail
      refine (live_any _).mono ?_
      rintro e t7 ⟨rfl, hb⟩
      replace HB := hide (HB.out.trans ((hb).mono HB.out.size))
      replace Vp := hide (Vp.out.step (hb))
      replace BO := hide (BO.out.step (hb))
      replace Vx := hide (Vx.out.step (hb))
      replace TO := hide (TO.out.below (hb))
      replace BW := hide (BW.out.step (hb))
      replace TW := hide (TW.out.below (hb))
      clear hb
      go_wp2
      go_ret
      exact ⟨rfl, HB.out⟩
    · have HC := hide hc
      have HZ := hide hm
      have hcb : (c == 0) = false := by rw [beq_eq_false_iff_ne]; exact hc
      clear hm hc
      go_wp2_with fail
      clear hcb
      go_cut [18, 19] from 97 (fun pw bv wx => ∃ gg sw mw lw kw, pw = .pointer (some ⟨gg, 0, none⟩) ∧ bv = .bool true ∧ Below w.heap.size w wx ∧ RVar wx (gx + 1) sp mp lp kp X ∧ Box wx go (.bool so) (.slice mo lo ko) ∧ Var wx gx sx mx lx kx X ∧ IntAt wx (.agg #[.bool so, .slice mo lo ko]) (X / c) ∧ Box2 wx gg 30 (.bool sw) (.slice mw lw kw) ∧ RInt wx (.agg #[.bool sw, .slice mw lw kw]) (X / c))
      case first =>
        refine wp_calm (fun w' => Below w.heap.size w w' ∧ Box2 w' (gx + 1) 30 (.bool sp) (.slice mp lp kp) ∧ RInt w' (.agg #[.bool sp, .slice mp lp kp]) X ∧ Box w' go (.bool so) (.slice mo lo ko) ∧ Box w' gx (.bool sx) (.slice mx lx kx) ∧ IntAt w' (.agg #[.bool sx, .slice mx lx kx]) X ∧ IntAt w' (.agg #[.bool so, .slice mo lo ko]) (X / c)) (fun _ => true) 10 #[false, false, false, false, false, false, false, false, false, false] (by kernel_rfl) rfl rfl ?_
        have HF := hide (And.intro (HB.out.drew) (And.intro (Vp.out.box.drew) (And.intro (Vp.out.int.drew) (And.intro (BO.out.drew) (And.intro (Vx.out.box.drew) (And.intro (Vx.out.int.drew) (TO.out.drew)))))))
        generalize t2.drew = t2d at *
        refine Calm.take (i := 0) (v := ?_) (a' := ?_) (l' := #[true, false, false, false, false, false, false, false, false, false]) (d := some 98) rfl (by kernel_rfl) (by kernel_rfl) (by kernel_rfl) (by kernel_rfl) (fun _ _ _ h => h) HF.out rfl ?_ rfl rfl ?_ ?_
        rotate_left
        · intro w' hF; have f10 := hF.2.1.cell0; have f11 := hF.2.1.cell1; have f30 := hF.2.2.2.1.cell0; have f31 := hF.2.2.2.1.cell1; have f40 := hF.2.2.2.2.1.cell0; have f41 := hF.2.2.2.2.1.cell1; clear hF; go_simp; try rfl
        rotate_left
        · simp only [Act.put]; exact rfl
        refine Calm.take (i := 1) (v := ?_) (a' := ?_) (l' := #[true, true, false, false, false, false, false, false, false, false]) (d := some 99) rfl (by kernel_rfl) (by kernel_rfl) (by kernel_rfl) (by kernel_rfl) (fun _ _ _ h => h) HF.out rfl ?_ rfl rfl ?_ ?_
        rotate_left
        · intro w' hF; clear hF; go_simp; try rfl
        rotate_left
        · simp only [Act.put]; exact rfl
        refine Calm.two (i := 2) (j := 7) (l := #[true, true, true, false, false, false, false, false, false, false]) (l' := #[true, true, false, false, false, false, false, true, false, false]) (by kernel_rfl) rfl rfl rfl rfl rfl rfl (fun K hK => ?_) (fun K hK => ?_)
        · go_simp
          refine (rof_any c _ HL.out HH.out).mono ?_
          rintro e t3 ⟨v, rfl, n, hb⟩
          have HF' := hide (And.intro (HF.out.1.trans ((hb).mono HF.out.1.size)) (And.intro (HF.out.2.1.step (hb)) (And.intro (HF.out.2.2.1.below (hb)) (And.intro (HF.out.2.2.2.1.step (hb)) (And.intro (HF.out.2.2.2.2.1.step (hb)) (And.intro (HF.out.2.2.2.2.2.1.below (hb)) (HF.out.2.2.2.2.2.2.below (hb))))))))
          have TC := hide (n)
          refine hK _ _ (fun _ => HF'.out) ?_
          clear hK K HF hb n
          have HF := hide HF'.out
          clear HF'
          refine Calm.two (i := 3) (j := 7) (l := #[true, true, true, true, false, false, false, false, false, false]) (l' := #[true, true, true, false, false, false, false, true, false, false]) (by kernel_rfl) rfl rfl rfl rfl rfl rfl (fun K hK => ?_) (fun K hK => ?_)
          · go_simp
            refine (rover_any _ _ X c _ HF.out.2.2.1 TC.out (SzI.dlen7 SX.out (by decide)) (SzI.dlen7 SC.out (by decide)) HC.out).mono ?_
            rintro e t4 ⟨v, z, bb, rfl, n, hor, hb⟩
            obtain ⟨rfl, rfl⟩ : z = X / c ∧ bb = true := by rcases hor with ⟨h1, _⟩ | ⟨_, h2, h3⟩; exact absurd HZ.out h1; exact ⟨h2, h3⟩
            obtain ⟨sw, mw, lw, kw, rfl, n⟩ := n.cells
            clear TC
            have HF' := hide (And.intro (HF.out.1.trans ((hb).mono HF.out.1.size)) (And.intro (HF.out.2.1.step (hb)) (And.intro (HF.out.2.2.1.below (hb)) (And.intro (HF.out.2.2.2.1.step (hb)) (And.intro (HF.out.2.2.2.2.1.step (hb)) (And.intro (HF.out.2.2.2.2.2.1.below (hb)) (HF.out.2.2.2.2.2.2.below (hb))))))))
            have TW := hide (n)
            refine hK _ _ (fun _ => HF'.out) ?_
            clear hK K HF hb n hor
            have HF := hide HF'.out
            clear HF'
            refine Calm.take (i := 4) (v := ?_) (a' := ?_) (l' := #[true, true, true, true, true, false, false, false, false, false]) (d := some 97) rfl (by kernel_rfl) (by kernel_rfl) (by kernel_rfl) (by kernel_rfl) (fun _ _ _ h => h) HF.out rfl ?_ rfl rfl ?_ ?_
            rotate_left
            · intro w' hF; clear hF; go_simp; try rfl
            rotate_left
            · simp only [Act.put]; exact rfl
            refine Calm.take (i := 5) (v := ?_) (a' := ?_) (l' := #[true, true, true, true, true, true, false, false, false, false]) (d := some 102) rfl (by kernel_rfl) (by kernel_rfl) (by kernel_rfl) (by kernel_rfl) (fun _ _ _ h => h) HF.out rfl ?_ rfl rfl ?_ ?_
            rotate_left
            · intro w' hF; clear hF; go_simp; try rfl
            rotate_left
            · simp only [Act.put]; exact rfl
            refine Calm.take (i := 6) (v := ?_) (a' := ?_) (l' := #[true, true, true, true, true, true, true, false, false, false]) (d := some 103) rfl (by kernel_rfl) (by kernel_rfl) (by kernel_rfl) (by kernel_rfl) (fun _ _ _ h => h) HF.out rfl ?_ rfl rfl ?_ ?_
            rotate_left
            · intro w' hF; clear hF; go_simp; try rfl
            rotate_left
            · simp only [Act.put]; exact rfl
            refine Calm.one (i := 7) (l' := #[true, true, true, true, true, true, true, true, false, false]) (by kernel_rfl) rfl rfl rfl fun K hK => ?_
            go_simp
            have al := below_alloc t4 (.cells #[.bool false, .slice none 0 0] 30)
            have HF' := hide (And.intro (HF.out.1.trans ((al).mono HF.out.1.size)) (And.intro (HF.out.2.1.step (al)) (And.intro (HF.out.2.2.1.below (al)) (And.intro (HF.out.2.2.2.1.step (al)) (And.intro (HF.out.2.2.2.2.1.step (al)) (And.intro (HF.out.2.2.2.2.2.1.below (al)) (HF.out.2.2.2.2.2.2.below (al))))))))
            have BXg := hide (Box2.new t4 30 (.bool false) (.slice none 0 0))
            replace TW := hide (TW.out.below (al))
            have LT1g := hide (HF.out.2.1.lt)
            have LT3g := hide (HF.out.2.2.2.1.lt)
            have LT4g := hide (HF.out.2.2.2.2.1.lt)
            have GEg := hide (HF.out.1.size)
            refine hK _ _ (fun _ => HF'.out) ?_
            clear hK K HF al
            have HF := hide HF'.out
            clear HF'
            generalize t4.alloc (.cells #[.bool false, .slice none 0 0] 30) = wzg at *
            generalize t4.heap.size = gg at *
            refine Calm.one (i := 8) (l' := #[true, true, true, true, true, true, true, true, true, false]) (by kernel_rfl) rfl rfl rfl fun K hK => ?_
            have LTS := hide (And.intro LT1g.out (And.intro LT3g.out (And.intro LT4g.out GEg.out)))
            have hc0 := BXg.out.cell0
            have hc1 := BXg.out.cell1
            have hf0 := BXg.out.free 0
            have hf1 := BXg.out.free 1
            go_simp
            have HF' := hide (And.intro (below_put HF.out.1 (show w.heap.size ≤ gg by have hx := LTS.out; omega) (.bool sw) (.slice mw lw kw)) (And.intro (HF.out.2.1.other (C := gg) (by have hx := LTS.out; omega) (.bool sw) (.slice mw lw kw)) (And.intro (HF.out.2.2.1.keep (BXg.out.keeps (by simp) (by simp) (.bool sw) (.slice mw lw kw))) (And.intro (HF.out.2.2.2.1.other (C := gg) (by have hx := LTS.out; omega) (.bool sw) (.slice mw lw kw)) (And.intro (HF.out.2.2.2.2.1.other (C := gg) (by have hx := LTS.out; omega) (.bool sw) (.slice mw lw kw)) (And.intro (HF.out.2.2.2.2.2.1.keep (BXg.out.keeps (by simp) (by simp) (.bool sw) (.slice mw lw kw))) (HF.out.2.2.2.2.2.2.keep (BXg.out.keeps (by simp) (by simp) (.bool sw) (.slice mw lw kw)))))))))
            replace TW := hide (TW.out.keep (BXg.out.keeps (by simp) (by simp) (.bool sw) (.slice mw lw kw)))
            replace BXg := hide (BXg.out.put (.bool sw) (.slice mw lw kw))
            refine hK _ _ (fun _ => HF'.out) ?_
            clear hK K HF hc0 hf0 hc1 hf1
            have HF := hide HF'.out
            clear HF'
            generalize ((wzg.setCell ⟨gg, 0, none⟩ (.bool sw)).setCell ⟨gg, 1, none⟩ (.slice mw lw kw)) = ws1 at *
            refine Calm.take (i := 9) (v := ?_) (a' := ?_) (l' := #[true, true, true, true, true, true, true, true, true, true]) (d := some 19) rfl (by kernel_rfl) (by kernel_rfl) (by kernel_rfl) (by kernel_rfl) (fun _ _ _ h => h) HF.out rfl ?_ rfl rfl ?_ ?_
            rotate_left
            · intro w' hF; clear hF; go_simp; try rfl
            rotate_left
            · simp only [Act.put]; exact rfl
            refine Calm.done (by kernel_rfl) ?_
            go_wp2
            go_meet
            case rel => exact ⟨gg, sw, mw, lw, kw, rfl, rfl, HF.out.1, ⟨HF.out.2.1, HF.out.2.2.1⟩, HF.out.2.2.2.1, ⟨HF.out.2.2.2.2.1, HF.out.2.2.2.2.2.1⟩, HF.out.2.2.2.2.2.2, BXg.out, TW.out⟩
          · go_simp
            have al := below_alloc t3 (.cells #[.bool false, .slice none 0 0] 30)
            have HF' := hide (And.intro (HF.out.1.trans ((al).mono HF.out.1.size)) (And.intro (HF.out.2.1.step (al)) (And.intro (HF.out.2.2.1.below (al)) (And.intro (HF.out.2.2.2.1.step (al)) (And.intro (HF.out.2.2.2.2.1.step (al)) (And.intro (HF.out.2.2.2.2.2.1.below (al)) (HF.out.2.2.2.2.2.2.below (al))))))))
            have BXg := hide (Box2.new t3 30 (.bool false) (.slice none 0 0))
            replace TC := hide (TC.out.below (al))
            have LT1g := hide (HF.out.2.1.lt)
            have LT3g := hide (HF.out.2.2.2.1.lt)
            have LT4g := hide (HF.out.2.2.2.2.1.lt)
            have GEg := hide (HF.out.1.size)
            refine hK _ _ (fun _ => HF'.out) ?_
            clear hK K HF al
            have HF := hide HF'.out
            clear HF'
            generalize t3.alloc (.cells #[.bool false, .slice none 0 0] 30) = wzg at *
            generalize t3.heap.size = gg at *
            refine Calm.one (i := 3) (l' := #[true, true, true, true, false, false, false, true, false, false]) (by kernel_rfl) rfl rfl rfl fun K hK => ?_
            go_simp
            refine (rover_any _ _ X c _ HF.out.2.2.1 TC.out (SzI.dlen7 SX.out (by decide)) (SzI.dlen7 SC.out (by decide)) HC.out).mono ?_
            rintro e t4 ⟨v, z, bb, rfl, n, hor, hb⟩
            obtain ⟨rfl, rfl⟩ : z = X / c ∧ bb = true := by rcases hor with ⟨h1, _⟩ | ⟨_, h2, h3⟩; exact absurd HZ.out h1; exact ⟨h2, h3⟩
            obtain ⟨sw, mw, lw, kw, rfl, n⟩ := n.cells
            clear TC
            replace BXg := hide (BXg.out.step hb)
            have HF' := hide (And.intro (HF.out.1.trans ((hb).mono HF.out.1.size)) (And.intro (HF.out.2.1.step (hb)) (And.intro (HF.out.2.2.1.below (hb)) (And.intro (HF.out.2.2.2.1.step (hb)) (And.intro (HF.out.2.2.2.2.1.step (hb)) (And.intro (HF.out.2.2.2.2.2.1.below (hb)) (HF.out.2.2.2.2.2.2.below (hb))))))))
            have TW := hide (n)
            refine hK _ _ (fun _ => HF'.out) ?_
            clear hK K HF hb n hor
            have HF := hide HF'.out
            clear HF'
            refine Calm.take (i := 4) (v := ?_) (a' := ?_) (l' := #[true, true, true, true, true, false, false, true, false, false]) (d := some 97) rfl (by kernel_rfl) (by kernel_rfl) (by kernel_rfl) (by kernel_rfl) (fun _ _ _ h => h) HF.out rfl ?_ rfl rfl ?_ ?_
            rotate_left
            · intro w' hF; clear hF; go_simp; try rfl
            rotate_left
            · simp only [Act.put]; exact rfl
            refine Calm.take (i := 5) (v := ?_) (a' := ?_) (l' := #[true, true, true, true, true, true, false, true, false, false]) (d := some 102) rfl (by kernel_rfl) (by kernel_rfl) (by kernel_rfl) (by kernel_rfl) (fun _ _ _ h => h) HF.out rfl ?_ rfl rfl ?_ ?_
            rotate_left
            · intro w' hF; clear hF; go_simp; try rfl
            rotate_left
            · simp only [Act.put]; exact rfl
            refine Calm.take (i := 6) (v := ?_) (a' := ?_) (l' := #[true, true, true, true, true, true, true, true, false, false]) (d := some 103) rfl (by kernel_rfl) (by kernel_rfl) (by kernel_rfl) (by kernel_rfl) (fun _ _ _ h => h) HF.out rfl ?_ rfl rfl ?_ ?_
            rotate_left
            · intro w' hF; clear hF; go_simp; try rfl
            rotate_left
            · simp only [Act.put]; exact rfl
            refine Calm.one (i := 8) (l' := #[true, true, true, true, true, true, true, true, true, false]) (by kernel_rfl) rfl rfl rfl fun K hK => ?_
            have LTS := hide (And.intro LT1g.out (And.intro LT3g.out (And.intro LT4g.out GEg.out)))
            have hc0 := BXg.out.cell0
            have hc1 := BXg.out.cell1
            have hf0 := BXg.out.free 0
            have hf1 := BXg.out.free 1
            go_simp
            have HF' := hide (And.intro (below_put HF.out.1 (show w.heap.size ≤ gg by have hx := LTS.out; omega) (.bool sw) (.slice mw lw kw)) (And.intro (HF.out.2.1.other (C := gg) (by have hx := LTS.out; omega) (.bool sw) (.slice mw lw kw)) (And.intro (HF.out.2.2.1.keep (BXg.out.keeps (by simp) (by simp) (.bool sw) (.slice mw lw kw))) (And.intro (HF.out.2.2.2.1.other (C := gg) (by have hx := LTS.out; omega) (.bool sw) (.slice mw lw kw)) (And.intro (HF.out.2.2.2.2.1.other (C := gg) (by have hx := LTS.out; omega) (.bool sw) (.slice mw lw kw)) (And.intro (HF.out.2.2.2.2.2.1.keep (BXg.out.keeps (by simp) (by simp) (.bool sw) (.slice mw lw kw))) (HF.out.2.2.2.2.2.2.keep (BXg.out.keeps (by simp) (by simp) (.bool sw) (.slice mw lw kw)))))))))
            replace TW := hide (TW.out.keep (BXg.out.keeps (by simp) (by simp) (.bool sw) (.slice mw lw kw)))
            replace BXg := hide (BXg.out.put (.bool sw) (.slice mw lw kw))
            refine hK _ _ (fun _ => HF'.out) ?_
            clear hK K HF hc0 hf0 hc1 hf1
            have HF := hide HF'.out
            clear HF'
            generalize ((t4.setCell ⟨gg, 0, none⟩ (.bool sw)).setCell ⟨gg, 1, none⟩ (.slice mw lw kw)) = ws1 at *
            refine Calm.take (i := 9) (v := ?_) (a' := ?_) (l' := #[true, true, true, true, true, true, true, true, true, true]) (d := some 19) rfl (by kernel_rfl) (by kernel_rfl) (by kernel_rfl) (by kernel_rfl) (fun _ _ _ h => h) HF.out rfl ?_ rfl rfl ?_ ?_
            rotate_left
            · intro w' hF; clear hF; go_simp; try rfl
            rotate_left
            · simp only [Act.put]; exact rfl
            refine Calm.done (by kernel_rfl) ?_
            go_wp2
            go_meet
            case rel => exact ⟨gg, sw, mw, lw, kw, rfl, rfl, HF.out.1, ⟨HF.out.2.1, HF.out.2.2.1⟩, HF.out.2.2.2.1, ⟨HF.out.2.2.2.2.1, HF.out.2.2.2.2.2.1⟩, HF.out.2.2.2.2.2.2, BXg.out, TW.out⟩
        · go_simp
          have al := below_alloc t2d (.cells #[.bool false, .slice none 0 0] 30)
          have HF' := hide (And.intro (HF.out.1.trans ((al).mono HF.out.1.size)) (And.intro (HF.out.2.1.step (al)) (And.intro (HF.out.2.2.1.below (al)) (And.intro (HF.out.2.2.2.1.step (al)) (And.intro (HF.out.2.2.2.2.1.step (al)) (And.intro (HF.out.2.2.2.2.2.1.below (al)) (HF.out.2.2.2.2.2.2.below (al))))))))
          have BXg := hide (Box2.new t2d 30 (.bool false) (.slice none 0 0))
          have LT1g := hide (HF.out.2.1.lt)
          have LT3g := hide (HF.out.2.2.2.1.lt)
          have LT4g := hide (HF.out.2.2.2.2.1.lt)
          have GEg := hide (HF.out.1.size)
          refine hK _ _ (fun _ => HF'.out) ?_
          clear hK K HF al
          have HF := hide HF'.out
          clear HF'
          generalize t2d.alloc (.cells #[.bool false, .slice none 0 0] 30) = wzg at *
          generalize t2d.heap.size = gg at *
          refine Calm.one (i := 2) (l' := #[true, true, true, false, false, false, false, true, false, false]) (by kernel_rfl) rfl rfl rfl fun K hK => ?_
          go_simp
          refine (rof_any c _ HL.out HH.out).mono ?_
          rintro e t3 ⟨v, rfl, n, hb⟩
          replace BXg := hide (BXg.out.step hb)
          have HF' := hide (And.intro (HF.out.1.trans ((hb).mono HF.out.1.size)) (And.intro (HF.out.2.1.step (hb)) (And.intro (HF.out.2.2.1.below (hb)) (And.intro (HF.out.2.2.2.1.step (hb)) (And.intro (HF.out.2.2.2.2.1.step (hb)) (And.intro (HF.out.2.2.2.2.2.1.below (hb)) (HF.out.2.2.2.2.2.2.below (hb))))))))
          have TC := hide (n)
          refine hK _ _ (fun _ => HF'.out) ?_
          clear hK K HF hb n
          have HF := hide HF'.out
          clear HF'
          refine Calm.one (i := 3) (l' := #[true, true, true, true, false, false, false, true, false, false]) (by kernel_rfl) rfl rfl rfl fun K hK => ?_
          go_simp
          refine (rover_any _ _ X c _ HF.out.2.2.1 TC.out (SzI.dlen7 SX.out (by decide)) (SzI.dlen7 SC.out (by decide)) HC.out).mono ?_
          rintro e t4 ⟨v, z, bb, rfl, n, hor, hb⟩
          obtain ⟨rfl, rfl⟩ : z = X / c ∧ bb = true := by rcases hor with ⟨h1, _⟩ | ⟨_, h2, h3⟩; exact absurd HZ.out h1; exact ⟨h2, h3⟩
          obtain ⟨sw, mw, lw, kw, rfl, n⟩ := n.cells
          clear TC
          replace BXg := hide (BXg.out.step hb)
          have HF' := hide (And.intro (HF.out.1.trans ((hb).mono HF.out.1.size)) (And.intro (HF.out.2.1.step (hb)) (And.intro (HF.out.2.2.1.below (hb)) (And.intro (HF.out.2.2.2.1.step (hb)) (And.intro (HF.out.2.2.2.2.1.step (hb)) (And.intro (HF.out.2.2.2.2.2.1.below (hb)) (HF.out.2.2.2.2.2.2.below (hb))))))))
          have TW := hide (n)
          refine hK _ _ (fun _ => HF'.out) ?_
          clear hK K HF hb n hor
          have HF := hide HF'.out
          clear HF'
          refine Calm.take (i := 4) (v := ?_) (a' := ?_) (l' := #[true, true, true, true, true, false, false, true, false, false]) (d := some 97) rfl (by kernel_rfl) (by kernel_rfl) (by kernel_rfl) (by kernel_rfl) (fun _ _ _ h => h) HF.out rfl ?_ rfl rfl ?_ ?_
          rotate_left
          · intro w' hF; clear hF; go_simp; try rfl
          rotate_left
          · simp only [Act.put]; exact rfl
          refine Calm.take (i := 5) (v := ?_) (a' := ?_) (l' := #[true, true, true, true, true, true, false, true, false, false]) (d := some 102) rfl (by kernel_rfl) (by kernel_rfl) (by kernel_rfl) (by kernel_rfl) (fun _ _ _ h => h) HF.out rfl ?_ rfl rfl ?_ ?_
          rotate_left
          · intro w' hF; clear hF; go_simp; try rfl
          rotate_left
          · simp only [Act.put]; exact rfl
          refine Calm.take (i := 6) (v := ?_) (a' := ?_) (l' := #[true, true, true, true, true, true, true, true, false, false]) (d := some 103) rfl (by kernel_rfl) (by kernel_rfl) (by kernel_rfl) (by kernel_rfl) (fun _ _ _ h => h) HF.out rfl ?_ rfl rfl ?_ ?_
          rotate_left
          · intro w' hF; clear hF; go_simp; try rfl
          rotate_left
          · simp only [Act.put]; exact rfl
          refine Calm.one (i := 8) (l' := #[true, true, true, true, true, true, true, true, true, false]) (by kernel_rfl) rfl rfl rfl fun K hK => ?_
          have LTS := hide (And.intro LT1g.out (And.intro LT3g.out (And.intro LT4g.out GEg.out)))
          have hc0 := BXg.out.cell0
          have hc1 := BXg.out.cell1
          have hf0 := BXg.out.free 0
          have hf1 := BXg.out.free 1
          go_simp
          have HF' := hide (And.intro (below_put HF.out.1 (show w.heap.size ≤ gg by have hx := LTS.out; omega) (.bool sw) (.slice mw lw kw)) (And.intro (HF.out.2.1.other (C := gg) (by have hx := LTS.out; omega) (.bool sw) (.slice mw lw kw)) (And.intro (HF.out.2.2.1.keep (BXg.out.keeps (by simp) (by simp) (.bool sw) (.slice mw lw kw))) (And.intro (HF.out.2.2.2.1.other (C := gg) (by have hx := LTS.out; omega) (.bool sw) (.slice mw lw kw)) (And.intro (HF.out.2.2.2.2.1.other (C := gg) (by have hx := LTS.out; omega) (.bool sw) (.slice mw lw kw)) (And.intro (HF.out.2.2.2.2.2.1.keep (BXg.out.keeps (by simp) (by simp) (.bool sw) (.slice mw lw kw))) (HF.out.2.2.2.2.2.2.keep (BXg.out.keeps (by simp) (by simp) (.bool sw) (.slice mw lw kw)))))))))
          replace TW := hide (TW.out.keep (BXg.out.keeps (by simp) (by simp) (.bool sw) (.slice mw lw kw)))
          replace BXg := hide (BXg.out.put (.bool sw) (.slice mw lw kw))
          refine hK _ _ (fun _ => HF'.out) ?_
          clear hK K HF hc0 hf0 hc1 hf1
          have HF := hide HF'.out
          clear HF'
          generalize ((t4.setCell ⟨gg, 0, none⟩ (.bool sw)).setCell ⟨gg, 1, none⟩ (.slice mw lw kw)) = ws1 at *
          refine Calm.take (i := 9) (v := ?_) (a' := ?_) (l' := #[true, true, true, true, true, true, true, true, true, true]) (d := some 19) rfl (by kernel_rfl) (by kernel_rfl) (by kernel_rfl) (by kernel_rfl) (fun _ _ _ h => h) HF.out rfl ?_ rfl rfl ?_ ?_
          rotate_left
          · intro w' hF; clear hF; go_simp; try rfl
          rotate_left
          · simp only [Act.put]; exact rfl
          refine Calm.done (by kernel_rfl) ?_
          go_wp2
          go_meet
          case rel => exact ⟨gg, sw, mw, lw, kw, rfl, rfl, HF.out.1, ⟨HF.out.2.1, HF.out.2.2.1⟩, HF.out.2.2.2.1, ⟨HF.out.2.2.2.2.1, HF.out.2.2.2.2.2.1⟩, HF.out.2.2.2.2.2.2, BXg.out, TW.out⟩
      case rest =>
      obtain ⟨gg, sw, mw, lw, kw, rfl, rfl, hB, hP, hO, hX, hI, hW, hR⟩ := hcut
      clear HB Vp BO Vx TO
      have HB := hide hB
      have Vp := hide hP
      have BO := hide hO
      have Vx := hide hX
      have TO := hide hI
      have BW := hide hW
      have TW := hide hR
      clear hB hP hO hX hI hW hR
      generalize hwc : wc = t5 at *
      clear hwc
      have x0 := Vx.out.box.cell0
      have x1 := Vx.out.box.cell1
      go_wp2_with fail
      refine (itimes_any _ X c _ Vx.out.int (SzI.len SX.out (by decide)) HL.out HH.out).mono ?_
      rintro e t6 ⟨v, rfl, nT, hb⟩
      clear x0 x1
      replace HB := hide (HB.out.trans ((hb).mono HB.out.size))
      replace Vp := hide (Vp.out.step (hb))
      replace BO := hide (BO.out.step (hb))
      replace Vx := hide (Vx.out.step (hb))
      replace TO := hide (TO.out.below (hb))
      replace BW := hide (BW.out.step (hb))
      replace TW := hide (TW.out.below (hb))
      have TT := hide (nT)
      clear hb nT
      go_wp2_with fail
      refine (iover_any _ (X * c) c _ TT.out (SzI.len (SzI.mul SX.out SC.out) (by decide)) HL.out HH.out).mono ?_
      rintro e t7 ⟨v, zb, fb, rfl, nB, hob, hb⟩
      obtain ⟨rfl, rfl⟩ : zb = X ∧ fb = 0 := by
        rcases hob with ⟨h, _⟩ | ⟨_, h, _⟩ | ⟨_, _, h2, h3⟩
        · exact absurd h HC.out
        · exact absurd (Int.mul_emod_left X c) h
        · exact ⟨by rw [h2, Int.mul_ediv_cancel _ HC.out], h3⟩
      obtain ⟨sb, mb, lb, kb, rfl, nB⟩ := nB.cells
      replace HB := hide (HB.out.trans ((hb).mono HB.out.size))
      replace Vp := hide (Vp.out.step (hb))
      replace BO := hide (BO.out.step (hb))
      replace Vx := hide (Vx.out.step (hb))
      replace TO := hide (TO.out.below (hb))
      replace BW := hide (BW.out.step (hb))
      replace TW := hide (TW.out.below (hb))
      replace TT := hide (TT.out.below (hb))
      have TB := hide (nB)
      clear hb nB hob
      clear TT
      go_upto_region 21 with fail
      replace HB := hide (HB.out.trans ((below_alloc t7 (.cells #[.bool sb, .slice mb lb kb] 28)).mono HB.out.size))
      replace Vp := hide (Vp.out.step (below_alloc t7 (.cells #[.bool sb, .slice mb lb kb] 28)))
      replace BO := hide (BO.out.step (below_alloc t7 (.cells #[.bool sb, .slice mb lb kb] 28)))
      replace Vx := hide (Vx.out.step (below_alloc t7 (.cells #[.bool sb, .slice mb lb kb] 28)))
      replace TO := hide (TO.out.below (below_alloc t7 (.cells #[.bool sb, .slice mb lb kb] 28)))
      replace BW := hide (BW.out.step (below_alloc t7 (.cells #[.bool sb, .slice mb lb kb] 28)))
      replace TW := hide (TW.out.below (below_alloc t7 (.cells #[.bool sb, .slice mb lb kb] 28)))
      replace TB := hide (TB.out.below (below_alloc t7 (.cells #[.bool sb, .slice mb lb kb] 28)))
      have BB' := hide (Box.new t7 (.bool sb) (.slice mb lb kb))
      generalize t7.alloc (.cells #[.bool sb, .slice mb lb kb] 28) = t8 at *
      generalize t7.heap.size = gb at *
      have o0 := BO.out.cell0
      have o1 := BO.out.cell1
      have u0 := BW.out.cell0
      have u1 := BW.out.cell1
      go_wp2_with fail
      refine (is_yes _ _ (zb / c) _ TO.out TW.out (SzI.len (SzI.ediv SX.out c) (by decide)) (Nat.le_trans (SzI.dlen (SzI.ediv SX.out c) (by decide)) (by decide))).mono ?_
      rintro e t9 ⟨rfl, hb⟩
      replace HB := hide (HB.out.trans ((hb).mono HB.out.size))
      replace Vp := hide (Vp.out.step (hb))
      replace BO := hide (BO.out.step (hb))
      replace Vx := hide (Vx.out.step (hb))
      replace TO := hide (TO.out.below (hb))
      replace BW := hide (BW.out.step (hb))
      replace TW := hide (TW.out.below (hb))
      replace TB := hide (TB.out.below (hb))
      replace BB' := hide (BB'.out.step (hb))
      clear hb
      clear o0 o1 u0 u1
      have b0 := BB'.out.cell0
      have b1 := BB'.out.cell1
      have p0 := Vp.out.box.cell0
      have p1 := Vp.out.box.cell1
      go_wp2_with fail
      refine (is_yes _ _ zb _ TB.out Vp.out.int (SzI.len SX.out (by decide)) (Nat.le_trans (SzI.dlen SX.out (by decide)) (by decide))).mono ?_
      rintro e t10 ⟨rfl, hb⟩
      replace HB := hide (HB.out.trans ((hb).mono HB.out.size))
      replace Vp := hide (Vp.out.step (hb))
      replace BO := hide (BO.out.step (hb))
      replace Vx := hide (Vx.out.step (hb))
      replace TO := hide (TO.out.below (hb))
      replace BW := hide (BW.out.step (hb))
      replace TW := hide (TW.out.below (hb))
      replace TB := hide (TB.out.below (hb))
      replace BB' := hide (BB'.out.step (hb))
      clear hb
      clear b0 b1 p0 p1
      go_wp2
      go_ret
      exact ⟨rfl, HB.out⟩
  · have SG := sgnI_ne hY
    have HY := hide hY
    clear hY
    have x0 := Vx.out.box.cell0
    have x1 := Vx.out.box.cell1
    have y0 := Vy.out.box.cell0
    have y1 := Vy.out.box.cell1
    go_wp2_with fail
    refine (idivmod_any _ _ X Y _ Vx.out.int Vy.out.int (SzI.len SX.out (by decide)) (SzI.len SY.out (by decide)) HY.out).mono ?_
    rintro e r1 ⟨v, u, rfl, nq', nr', hb⟩
    obtain ⟨sa, ma, la, ka, rfl, nq'⟩ := nq'.cells
    obtain ⟨sd, md, ld, kd, rfl, nr'⟩ := nr'.cells
    clear x0 x1 y0 y1
    replace HB := hide (HB.out.trans ((hb).mono HB.out.size))
    replace Vx := hide (Vx.out.step (hb))
    replace Vp := hide (Vp.out.step (hb))
    replace Vy := hide (Vy.out.step (hb))
    replace Vq := hide (Vq.out.step (hb))
    have TQ := hide (nq')
    have TR := hide (nr')
    clear hb nq' nr'
    go_upto_region 8 with fail
    replace HB := hide (HB.out.trans ((below_alloc r1 (.cells #[.bool sa, .slice ma la ka] 28)).mono HB.out.size))
    replace Vx := hide (Vx.out.step (below_alloc r1 (.cells #[.bool sa, .slice ma la ka] 28)))
    replace Vp := hide (Vp.out.step (below_alloc r1 (.cells #[.bool sa, .slice ma la ka] 28)))
    replace Vy := hide (Vy.out.step (below_alloc r1 (.cells #[.bool sa, .slice ma la ka] 28)))
    replace Vq := hide (Vq.out.step (below_alloc r1 (.cells #[.bool sa, .slice ma la ka] 28)))
    replace TQ := hide (TQ.out.below (below_alloc r1 (.cells #[.bool sa, .slice ma la ka] 28)))
    replace TR := hide (TR.out.below (below_alloc r1 (.cells #[.bool sa, .slice ma la ka] 28)))
    have BQ := hide (Box.new r1 (.bool sa) (.slice ma la ka))
    replace HB := hide (HB.out.trans ((below_alloc (r1.alloc (.cells #[.bool sa, .slice ma la ka] 28)) (.cells #[.bool sd, .slice md ld kd] 28)).mono HB.out.size))
    replace Vx := hide (Vx.out.step (below_alloc (r1.alloc (.cells #[.bool sa, .slice ma la ka] 28)) (.cells #[.bool sd, .slice md ld kd] 28)))
    replace Vp := hide (Vp.out.step (below_alloc (r1.alloc (.cells #[.bool sa, .slice ma la ka] 28)) (.cells #[.bool sd, .slice md ld kd] 28)))
    replace Vy := hide (Vy.out.step (below_alloc (r1.alloc (.cells #[.bool sa, .slice ma la ka] 28)) (.cells #[.bool sd, .slice md ld kd] 28)))
    replace Vq := hide (Vq.out.step (below_alloc (r1.alloc (.cells #[.bool sa, .slice ma la ka] 28)) (.cells #[.bool sd, .slice md ld kd] 28)))
    replace TQ := hide (TQ.out.below (below_alloc (r1.alloc (.cells #[.bool sa, .slice ma la ka] 28)) (.cells #[.bool sd, .slice md ld kd] 28)))
    replace TR := hide (TR.out.below (below_alloc (r1.alloc (.cells #[.bool sa, .slice ma la ka] 28)) (.cells #[.bool sd, .slice md ld kd] 28)))
    replace BQ := hide (BQ.out.step (below_alloc (r1.alloc (.cells #[.bool sa, .slice ma la ka] 28)) (.cells #[.bool sd, .slice md ld kd] 28)))
    have BR := hide (Box.new (r1.alloc (.cells #[.bool sa, .slice ma la ka] 28)) (.bool sd) (.slice md ld kd))
    rw [World.size_alloc] at BR
    generalize (r1.alloc (.cells #[.bool sa, .slice ma la ka] 28)).alloc (.cells #[.bool sd, .slice md ld kd] 28) = r2 at *
    generalize r1.heap.size = ga at *
    have d0 := Vq.out.box.cell0
    have d1 := Vq.out.box.cell1
    go_wp2_with fail
    refine (rsign_any _ Y _ Vq.out.int).mono ?_
    rintro e r3 ⟨rfl, hb⟩
    clear d0 d1
    replace HB := hide (HB.out.trans ((hb).mono HB.out.size))
    replace Vx := hide (Vx.out.step (hb))
    replace Vp := hide (Vp.out.step (hb))
    replace Vy := hide (Vy.out.step (hb))
    replace Vq := hide (Vq.out.step (hb))
    replace TQ := hide (TQ.out.below (hb))
    replace TR := hide (TR.out.below (hb))
    replace BQ := hide (BQ.out.step (hb))
    replace BR := hide (BR.out.step (hb))
    clear hb
    generalize sgnI Y = sgy at *
    have p0 := Vp.out.box.cell0
    have p1 := Vp.out.box.cell1
    have d0 := Vq.out.box.cell0
    have d1 := Vq.out.box.cell1
    go_wp2_with fail
    refine (rdm_any _ _ X Y _ Vp.out.int Vq.out.int (SzI.dlen7 SX.out (by decide)) (SzI.dlen7 SY.out (by decide)) HY.out).mono ?_
    rintro e r4 ⟨v, u, rfl, nn, nm, hb⟩
    obtain ⟨se, me, le, ke, rfl, nn⟩ := nn.cells
    obtain ⟨sf, mf, lf, kf, rfl, nm⟩ := nm.cells
    clear p0 p1 d0 d1
    clear SG
    replace HB := hide (HB.out.trans ((hb).mono HB.out.size))
    replace Vx := hide (Vx.out.step (hb))
    replace Vp := hide (Vp.out.step (hb))
    replace Vy := hide (Vy.out.step (hb))
    replace Vq := hide (Vq.out.step (hb))
    replace TQ := hide (TQ.out.below (hb))
    replace TR := hide (TR.out.below (hb))
    replace BQ := hide (BQ.out.step (hb))
    replace BR := hide (BR.out.step (hb))
    have TN := hide (nn)
    have TM := hide (nm)
    clear hb nn nm
    go_upto_region 12 with fail
    replace HB := hide (HB.out.trans ((below_alloc r4 (.cells #[.bool se, .slice me le ke] 30)).mono HB.out.size))
    replace Vx := hide (Vx.out.step (below_alloc r4 (.cells #[.bool se, .slice me le ke] 30)))
    replace Vp := hide (Vp.out.step (below_alloc r4 (.cells #[.bool se, .slice me le ke] 30)))
    replace Vy := hide (Vy.out.step (below_alloc r4 (.cells #[.bool se, .slice me le ke] 30)))
    replace Vq := hide (Vq.out.step (below_alloc r4 (.cells #[.bool se, .slice me le ke] 30)))
    replace TQ := hide (TQ.out.below (below_alloc r4 (.cells #[.bool se, .slice me le ke] 30)))
    replace TR := hide (TR.out.below (below_alloc r4 (.cells #[.bool se, .slice me le ke] 30)))
    replace BQ := hide (BQ.out.step (below_alloc r4 (.cells #[.bool se, .slice me le ke] 30)))
    replace BR := hide (BR.out.step (below_alloc r4 (.cells #[.bool se, .slice me le ke] 30)))
    replace TN := hide (TN.out.below (below_alloc r4 (.cells #[.bool se, .slice me le ke] 30)))
    replace TM := hide (TM.out.below (below_alloc r4 (.cells #[.bool se, .slice me le ke] 30)))
    have BN := hide (Box2.new r4 30 (.bool se) (.slice me le ke))
    replace HB := hide (HB.out.trans ((below_alloc (r4.alloc (.cells #[.bool se, .slice me le ke] 30)) (.cells #[.bool sf, .slice mf lf kf] 30)).mono HB.out.size))
    replace Vx := hide (Vx.out.step (below_alloc (r4.alloc (.cells #[.bool se, .slice me le ke] 30)) (.cells #[.bool sf, .slice mf lf kf] 30)))
    replace Vp := hide (Vp.out.step (below_alloc (r4.alloc (.cells #[.bool se, .slice me le ke] 30)) (.cells #[.bool sf, .slice mf lf kf] 30)))
    replace Vy := hide (Vy.out.step (below_alloc (r4.alloc (.cells #[.bool se, .slice me le ke] 30)) (.cells #[.bool sf, .slice mf lf kf] 30)))
    replace Vq := hide (Vq.out.step (below_alloc (r4.alloc (.cells #[.bool se, .slice me le ke] 30)) (.cells #[.bool sf, .slice mf lf kf] 30)))
    replace TQ := hide (TQ.out.below (below_alloc (r4.alloc (.cells #[.bool se, .slice me le ke] 30)) (.cells #[.bool sf, .slice mf lf kf] 30)))
    replace TR := hide (TR.out.below (below_alloc (r4.alloc (.cells #[.bool se, .slice me le ke] 30)) (.cells #[.bool sf, .slice mf lf kf] 30)))
    replace BQ := hide (BQ.out.step (below_alloc (r4.alloc (.cells #[.bool se, .slice me le ke] 30)) (.cells #[.bool sf, .slice mf lf kf] 30)))
    replace BR := hide (BR.out.step (below_alloc (r4.alloc (.cells #[.bool se, .slice me le ke] 30)) (.cells #[.bool sf, .slice mf lf kf] 30)))
    replace TN := hide (TN.out.below (below_alloc (r4.alloc (.cells #[.bool se, .slice me le ke] 30)) (.cells #[.bool sf, .slice mf lf kf] 30)))
    replace TM := hide (TM.out.below (below_alloc (r4.alloc (.cells #[.bool se, .slice me le ke] 30)) (.cells #[.bool sf, .slice mf lf kf] 30)))
    replace BN := hide (BN.out.step (below_alloc (r4.alloc (.cells #[.bool se, .slice me le ke] 30)) (.cells #[.bool sf, .slice mf lf kf] 30)))
    have BM := hide (Box2.new (r4.alloc (.cells #[.bool se, .slice me le ke] 30)) 30 (.bool sf) (.slice mf lf kf))
    rw [World.size_alloc] at BM
    generalize (r4.alloc (.cells #[.bool se, .slice me le ke] 30)).alloc (.cells #[.bool sf, .slice mf lf kf] 30) = r5 at *
    generalize r4.heap.size = ge at *
    have e0 := BQ.out.cell0
    have e1 := BQ.out.cell1
    have f0 := BN.out.cell0
    have f1 := BN.out.cell1
    go_wp2_with fail
    refine (is_yes _ _ (X / Y) _ TQ.out TN.out (SzI.len (SzI.ediv SX.out Y) (by decide)) (Nat.le_trans (SzI.dlen (SzI.ediv SX.out Y) (by decide)) (by decide))).mono ?_
    rintro e r6 ⟨rfl, hb⟩
    replace HB := hide (HB.out.trans ((hb).mono HB.out.size))
    replace Vx := hide (Vx.out.step (hb))
    replace Vp := hide (Vp.out.step (hb))
    replace Vy := hide (Vy.out.step (hb))
    replace Vq := hide (Vq.out.step (hb))
    replace TQ := hide (TQ.out.below (hb))
    replace TR := hide (TR.out.below (hb))
    replace BQ := hide (BQ.out.step (hb))
    replace BR := hide (BR.out.step (hb))
    replace TN := hide (TN.out.below (hb))
    replace TM := hide (TM.out.below (hb))
    replace BN := hide (BN.out.step (hb))
    replace BM := hide (BM.out.step (hb))
    clear hb
    clear e0 e1 f0 f1
    have e0 := BR.out.cell0
    have e1 := BR.out.cell1
    have f0 := BM.out.cell0
    have f1 := BM.out.cell1
    go_wp2_with fail
    refine (is_yes _ _ (X % Y) _ TR.out TM.out (SzI.len (SzI.emod SY.out X HY.out) (by decide)) (Nat.le_trans (SzI.dlen (SzI.emod SY.out X HY.out) (by decide)) (by decide))).mono ?_
    rintro e r7 ⟨rfl, hb⟩
    replace HB := hide (HB.out.trans ((hb).mono HB.out.size))
    replace Vx := hide (Vx.out.step (hb))
    replace Vp := hide (Vp.out.step (hb))
    replace Vy := hide (Vy.out.step (hb))
    replace Vq := hide (Vq.out.step (hb))
    replace TQ := hide (TQ.out.below (hb))
    replace TR := hide (TR.out.below (hb))
    replace BQ := hide (BQ.out.step (hb))
    replace BR := hide (BR.out.step (hb))
    replace TN := hide (TN.out.below (hb))
    replace TM := hide (TM.out.below (hb))
    replace BN := hide (BN.out.step (hb))
    replace BM := hide (BM.out.step (hb))
    clear hb
    clear e0 e1 f0 f1
    clear TQ
    clear TR
    clear BQ
    clear BR
    clear Vq
    clear Vy
    clear TN
    clear TM
    clear BN
    clear BM
    have sv0 := hide SX.out
    clear sv0
    have x0 := Vx.out.box.cell0
    have x1 := Vx.out.box.cell1
    go_wp2_with fail
    refine (iover_any _ X c _ Vx.out.int (SzI.len SX.out (by decide)) HL.out HH.out).mono ?_
    rintro e t1 ⟨v, zo, fo, rfl, nO, hov, hb⟩
    obtain ⟨so, mo, lo, ko, rfl, nO⟩ := nO.cells
    clear x0 x1
    replace HB := hide (HB.out.trans ((hb).mono HB.out.size))
    replace Vx := hide (Vx.out.step (hb))
    replace Vp := hide (Vp.out.step (hb))
    have TO := hide (nO)
    have HOV := hide hov
    clear hb nO hov
    go_upto_region 15 with fail
    replace HB := hide (HB.out.trans ((below_alloc t1 (.cells #[.bool so, .slice mo lo ko] 28)).mono HB.out.size))
    replace Vx := hide (Vx.out.step (below_alloc t1 (.cells #[.bool so, .slice mo lo ko] 28)))
    replace Vp := hide (Vp.out.step (below_alloc t1 (.cells #[.bool so, .slice mo lo ko] 28)))
    replace TO := hide (TO.out.below (below_alloc t1 (.cells #[.bool so, .slice mo lo ko] 28)))
    have BO := hide (Box.new t1 (.bool so) (.slice mo lo ko))
    generalize t1.alloc (.cells #[.bool so, .slice mo lo ko] 28) = t2 at *
    generalize t1.heap.size = go at *
    rcases HOV.out with ⟨hc, rfl, rfl⟩ | ⟨hc, hm, rfl, rfl⟩ | ⟨hc, hm, rfl, rfl⟩
    · subst hc
      have o0 := BO.out.cell0
      have o1 := BO.out.cell1
      go_wp2_with fail
      refine (zero_yes _ _ TO.out).mono ?_
      rintro e t3 ⟨rfl, hb⟩
      clear o0 o1
      replace HB := hide (HB.out.trans ((hb).mono HB.out.size))
      replace Vx := hide (Vx.out.step (hb))
      replace Vp := hide (Vp.out.step (hb))
      replace TO := hide (TO.out.below (hb))
      replace BO := hide (BO.out.step (hb))
      clear hb
      go_wp2_with fail
      refine (live_any _).mono ?_
      rintro e t4 ⟨rfl, hb⟩
      replace HB := hide (HB.out.trans ((hb).mono HB.out.size))
      replace Vx := hide (Vx.out.step (hb))
      replace Vp := hide (Vp.out.step (hb))
      replace TO := hide (TO.out.below (hb))
      replace BO := hide (BO.out.step (hb))
      clear hb
      go_wp2
      go_ret
      exact ⟨rfl, HB.out⟩
    · have HC := hide hc
      have HZ := hide hm
      have hcb : (c == 0) = false := by rw [beq_eq_false_iff_ne]; exact hc
      clear hm hc
      go_wp2_with fail
      clear hcb
      go_cut [18, 19] from 97 (fun pw bv wx => ∃ gg sw mw lw kw, pw = .pointer (some ⟨gg, 0, none⟩) ∧ bv = .bool false ∧ Below w.heap.size w wx ∧ RVar wx (gx + 1) sp mp lp kp X ∧ Box wx go (.bool so) (.slice mo lo ko) ∧ Var wx gx sx mx lx kx X ∧ IntAt wx (.agg #[.bool so, .slice mo lo ko]) 0 ∧ Box2 wx gg 30 (.bool sw) (.slice mw lw kw) ∧ RInt wx (.agg #[.bool sw, .slice mw lw kw]) 0)
      case first =>
        refine wp_calm (fun w' => Below w.heap.size w w' ∧ Box2 w' (gx + 1) 30 (.bool sp) (.slice mp lp kp) ∧ RInt w' (.agg #[.bool sp, .slice mp lp kp]) X ∧ Box w' go (.bool so) (.slice mo lo ko) ∧ Box w' gx (.bool sx) (.slice mx lx kx) ∧ IntAt w' (.agg #[.bool sx, .slice mx lx kx]) X ∧ IntAt w' (.agg #[.bool so, .slice mo lo ko]) 0) (fun _ => true) 10 #[false, false, false, false, false, false, false, false, false, false] (by kernel_rfl) rfl rfl ?_
        have HF := hide (And.intro (HB.out.drew) (And.intro (Vp.out.box.drew) (And.intro (Vp.out.int.drew) (And.intro (BO.out.drew) (And.intro (Vx.out.box.drew) (And.intro (Vx.out.int.drew) (TO.out.drew)))))))
        generalize t2.drew = t2d at *
        refine Calm.take (i := 0) (v := ?_) (a' := ?_) (l' := #[true, false, false, false, false, false, false, false, false, false]) (d := some 98) rfl (by kernel_rfl) (by kernel_rfl) (by kernel_rfl) (by kernel_rfl) (fun _ _ _ h => h) HF.out rfl ?_ rfl rfl ?_ ?_
        rotate_left
        · intro w' hF; have f10 := hF.2.1.cell0; have f11 := hF.2.1.cell1; have f30 := hF.2.2.2.1.cell0; have f31 := hF.2.2.2.1.cell1; have f40 := hF.2.2.2.2.1.cell0; have f41 := hF.2.2.2.2.1.cell1; clear hF; go_simp; try rfl
        rotate_left
        · simp only [Act.put]; exact rfl
        refine Calm.take (i := 1) (v := ?_) (a' := ?_) (l' := #[true, true, false, false, false, false, false, false, false, false]) (d := some 99) rfl (by kernel_rfl) (by kernel_rfl) (by kernel_rfl) (by kernel_rfl) (fun _ _ _ h => h) HF.out rfl ?_ rfl rfl ?_ ?_
        rotate_left
        · intro w' hF; clear hF; go_simp; try rfl
        rotate_left
        · simp only [Act.put]; exact rfl
        refine Calm.two (i := 2) (j := 7) (l := #[true, true, true, false, false, false, false, false, false, false]) (l' := #[true, true, false, false, false, false, false, true, false, false]) (by kernel_rfl) rfl rfl rfl rfl rfl rfl (fun K hK => ?_) (fun K hK => ?_)
        · go_simp
          refine (rof_any c _ HL.out HH.out).mono ?_
          rintro e t3 ⟨v, rfl, n, hb⟩
          have HF' := hide (And.intro (HF.out.1.trans ((hb).mono HF.out.1.size)) (And.intro (HF.out.2.1.step (hb)) (And.intro (HF.out.2.2.1.below (hb)) (And.intro (HF.out.2.2.2.1.step (hb)) (And.intro (HF.out.2.2.2.2.1.step (hb)) (And.intro (HF.out.2.2.2.2.2.1.below (hb)) (HF.out.2.2.2.2.2.2.below (hb))))))))
          have TC := hide (n)
          refine hK _ _ (fun _ => HF'.out) ?_
          clear hK K HF hb n
          have HF := hide HF'.out
          clear HF'
          refine Calm.two (i := 3) (j := 7) (l := #[true, true, true, true, false, false, false, false, false, false]) (l' := #[true, true, true, false, false, false, false, true, false, false]) (by kernel_rfl) rfl rfl rfl rfl rfl rfl (fun K hK => ?_) (fun K hK => ?_)
          · go_simp
            refine (rover_any _ _ X c _ HF.out.2.2.1 TC.out (SzI.dlen7 SX.out (by decide)) (SzI.dlen7 SC.out (by decide)) HC.out).mono ?_
            rintro e t4 ⟨v, z, bb, rfl, n, hor, hb⟩
            obtain ⟨rfl, rfl⟩ : z = 0 ∧ bb = false := by rcases hor with ⟨_, h2, h3⟩ | ⟨h1, _⟩; exact ⟨h2, h3⟩; exact absurd h1 HZ.out
            obtain ⟨sw, mw, lw, kw, rfl, n⟩ := n.cells
            clear TC
            have HF' := hide (And.intro (HF.out.1.trans ((hb).mono HF.out.1.size)) (And.intro (HF.out.2.1.step (hb)) (And.intro (HF.out.2.2.1.below (hb)) (And.intro (HF.out.2.2.2.1.step (hb)) (And.intro (HF.out.2.2.2.2.1.step (hb)) (And.intro (HF.out.2.2.2.2.2.1.below (hb)) (HF.out.2.2.2.2.2.2.below (hb))))))))
            have TW := hide (n)
            refine hK _ _ (fun _ => HF'.out) ?_
            clear hK K HF hb n hor
            have HF := hide HF'.out
            clear HF'
            refine Calm.take (i := 4) (v := ?_) (a' := ?_) (l' := #[true, true, true, true, true, false, false, false, false, false]) (d := some 97) rfl (by kernel_rfl) (by kernel_rfl) (by kernel_rfl) (by kernel_rfl) (fun _ _ _ h => h) HF.out rfl ?_ rfl rfl ?_ ?_
            rotate_left
            · intro w' hF; clear hF; go_simp; try rfl
            rotate_left
            · simp only [Act.put]; exact rfl
            refine Calm.take (i := 5) (v := ?_) (a' := ?_) (l' := #[true, true, true, true, true, true, false, false, false, false]) (d := some 102) rfl (by kernel_rfl) (by kernel_rfl) (by kernel_rfl) (by kernel_rfl) (fun _ _ _ h => h) HF.out rfl ?_ rfl rfl ?_ ?_
            rotate_left
            · intro w' hF; clear hF; go_simp; try rfl
            rotate_left
            · simp only [Act.put]; exact rfl
            refine Calm.take (i := 6) (v := ?_) (a' := ?_) (l' := #[true, true, true, true, true, true, true, false, false, false]) (d := some 103) rfl (by kernel_rfl) (by kernel_rfl) (by kernel_rfl) (by kernel_rfl) (fun _ _ _ h => h) HF.out rfl ?_ rfl rfl ?_ ?_
            rotate_left
            · intro w' hF; clear hF; go_simp; try rfl
            rotate_left
            · simp only [Act.put]; exact rfl
            refine Calm.one (i := 7) (l' := #[true, true, true, true, true, true, true, true, false, false]) (by kernel_rfl) rfl rfl rfl fun K hK => ?_
            go_simp
            have al := below_alloc t4 (.cells #[.bool false, .slice none 0 0] 30)
            have HF' := hide (And.intro (HF.out.1.trans ((al).mono HF.out.1.size)) (And.intro (HF.out.2.1.step (al)) (And.intro (HF.out.2.2.1.below (al)) (And.intro (HF.out.2.2.2.1.step (al)) (And.intro (HF.out.2.2.2.2.1.step (al)) (And.intro (HF.out.2.2.2.2.2.1.below (al)) (HF.out.2.2.2.2.2.2.below (al))))))))
            have BXg := hide (Box2.new t4 30 (.bool false) (.slice none 0 0))
            replace TW := hide (TW.out.below (al))
            have LT1g := hide (HF.out.2.1.lt)
            have LT3g := hide (HF.out.2.2.2.1.lt)
            have LT4g := hide (HF.out.2.2.2.2.1.lt)
            have GEg := hide (HF.out.1.size)
            refine hK _ _ (fun _ => HF'.out) ?_
            clear hK K HF al
            have HF := hide HF'.out
            clear HF'
            generalize t4.alloc (.cells #[.bool false, .slice none 0 0] 30) = wzg at *
            generalize t4.heap.size = gg at *
            refine Calm.one (i := 8) (l' := #[true, true, true, true, true, true, true, true, true, false]) (by kernel_rfl) rfl rfl rfl fun K hK => ?_
            have LTS := hide (And.intro LT1g.out (And.intro LT3g.out (And.intro LT4g.out GEg.out)))
            have hc0 := BXg.out.cell0
            have hc1 := BXg.out.cell1
            have hf0 := BXg.out.free 0
            have hf1 := BXg.out.free 1
            go_simp
            have HF' := hide (And.intro (below_put HF.out.1 (show w.heap.size ≤ gg by have hx := LTS.out; omega) (.bool sw) (.slice mw lw kw)) (And.intro (HF.out.2.1.other (C := gg) (by have hx := LTS.out; omega) (.bool sw) (.slice mw lw kw)) (And.intro (HF.out.2.2.1.keep (BXg.out.keeps (by simp) (by simp) (.bool sw) (.slice mw lw kw))) (And.intro (HF.out.2.2.2.1.other (C := gg) (by have hx := LTS.out; omega) (.bool sw) (.slice mw lw kw)) (And.intro (HF.out.2.2.2.2.1.other (C := gg) (by have hx := LTS.out; omega) (.bool sw) (.slice mw lw kw)) (And.intro (HF.out.2.2.2.2.2.1.keep (BXg.out.keeps (by simp) (by simp) (.bool sw) (.slice mw lw kw))) (HF.out.2.2.2.2.2.2.keep (BXg.out.keeps (by simp) (by simp) (.bool sw) (.slice mw lw kw)))))))))
            replace TW := hide (TW.out.keep (BXg.out.keeps (by simp) (by simp) (.bool sw) (.slice mw lw kw)))
            replace BXg := hide (BXg.out.put (.bool sw) (.slice mw lw kw))
            refine hK _ _ (fun _ => HF'.out) ?_
            clear hK K HF hc0 hf0 hc1 hf1
            have HF := hide HF'.out
            clear HF'
            generalize ((wzg.setCell ⟨gg, 0, none⟩ (.bool sw)).setCell ⟨gg, 1, none⟩ (.slice mw lw kw)) = ws1 at *
            refine Calm.take (i := 9) (v := ?_) (a' := ?_) (l' := #[true, true, true, true, true, true, true, true, true, true]) (d := some 19) rfl (by kernel_rfl) (by kernel_rfl) (by kernel_rfl) (by kernel_rfl) (fun _ _ _ h => h) HF.out rfl ?_ rfl rfl ?_ ?_
            rotate_left
            · intro w' hF; clear hF; go_simp; try rfl
            rotate_left
            · simp only [Act.put]; exact rfl
            refine Calm.done (by kernel_rfl) ?_
            go_wp2
            go_meet
            case rel => exact ⟨gg, sw, mw, lw, kw, rfl, rfl, HF.out.1, ⟨HF.out.2.1, HF.out.2.2.1⟩, HF.out.2.2.2.1, ⟨HF.out.2.2.2.2.1, HF.out.2.2.2.2.2.1⟩, HF.out.2.2.2.2.2.2, BXg.out, TW.out⟩
          · go_simp
            have al := below_alloc t3 (.cells #[.bool false, .slice none 0 0] 30)
            have HF' := hide (And.intro (HF.out.1.trans ((al).mono HF.out.1.size)) (And.intro (HF.out.2.1.step (al)) (And.intro (HF.out.2.2.1.below (al)) (And.intro (HF.out.2.2.2.1.step (al)) (And.intro (HF.out.2.2.2.2.1.step (al)) (And.intro (HF.out.2.2.2.2.2.1.below (al)) (HF.out.2.2.2.2.2.2.below (al))))))))
            have BXg := hide (Box2.new t3 30 (.bool false) (.slice none 0 0))
            replace TC := hide (TC.out.below (al))
            have LT1g := hide (HF.out.2.1.lt)
            have LT3g := hide (HF.out.2.2.2.1.lt)
            have LT4g := hide (HF.out.2.2.2.2.1.lt)
            have GEg := hide (HF.out.1.size)
            refine hK _ _ (fun _ => HF'.out) ?_
            clear hK K HF al
            have HF := hide HF'.out
            clear HF'
            generalize t3.alloc (.cells #[.bool false, .slice none 0 0] 30) = wzg at *
            generalize t3.heap.size = gg at *
            refine Calm.one (i := 3) (l' := #[true, true, true, true, false, false, false, true, false, false]) (by kernel_rfl) rfl rfl rfl fun K hK => ?_
            go_simp
            refine (rover_any _ _ X c _ HF.out.2.2.1 TC.out (SzI.dlen7 SX.out (by decide)) (SzI.dlen7 SC.out (by decide)) HC.out).mono ?_
            rintro e t4 ⟨v, z, bb, rfl, n, hor, hb⟩
            obtain ⟨rfl, rfl⟩ : z = 0 ∧ bb = false := by rcases hor with ⟨_, h2, h3⟩ | ⟨h1, _⟩; exact ⟨h2, h3⟩; exact absurd h1 HZ.out
            obtain ⟨sw, mw, lw, kw, rfl, n⟩ := n.cells
            clear TC
            replace BXg := hide (BXg.out.step hb)
            have HF' := hide (And.intro (HF.out.1.trans ((hb).mono HF.out.1.size)) (And.intro (HF.out.2.1.step (hb)) (And.intro (HF.out.2.2.1.below (hb)) (And.intro (HF.out.2.2.2.1.step (hb)) (And.intro (HF.out.2.2.2.2.1.step (hb)) (And.intro (HF.out.2.2.2.2.2.1.below (hb)) (HF.out.2.2.2.2.2.2.below (hb))))))))
            have TW := hide (n)
            refine hK _ _ (fun _ => HF'.out) ?_
            clear hK K HF hb n hor
            have HF := hide HF'.out
            clear HF'
            refine Calm.take (i := 4) (v := ?_) (a' := ?_) (l' := #[true, true, true, true, true, false, false, true, false, false]) (d := some 97) rfl (by kernel_rfl) (by kernel_rfl) (by kernel_rfl) (by kernel_rfl) (fun _ _ _ h => h) HF.out rfl ?_ rfl rfl ?_ ?_
            rotate_left
            · intro w' hF; clear hF; go_simp; try rfl
            rotate_left
            · simp only [Act.put]; exact rfl
            refine Calm.take (i := 5) (v := ?_) (a' := ?_) (l' := #[true, true, true, true, true, true, false, true, false, false]) (d := some 102) rfl (by kernel_rfl) (by kernel_rfl) (by kernel_rfl) (by kernel_rfl) (fun _ _ _ h => h) HF.out rfl ?_ rfl rfl ?_ ?_
            rotate_left
            · intro w' hF; clear hF; go_simp; try rfl
            rotate_left
            · simp only [Act.put]; exact rfl
            refine Calm.take (i := 6) (v := ?_) (a' := ?_) (l' := #[true, true, true, true, true, true, true, true, false, false]) (d := some 103) rfl (by kernel_rfl) (by kernel_rfl) (by kernel_rfl) (by kernel_rfl) (fun _ _ _ h => h) HF.out rfl ?_ rfl rfl ?_ ?_
            rotate_left
            · intro w' hF; clear hF; go_simp; try rfl
            rotate_left
            · simp only [Act.put]; exact rfl
            refine Calm.one (i := 8) (l' := #[true, true, true, true, true, true, true, true, true, false]) (by kernel_rfl) rfl rfl rfl fun K hK => ?_
            have LTS := hide (And.intro LT1g.out (And.intro LT3g.out (And.intro LT4g.out GEg.out)))
            have hc0 := BXg.out.cell0
            have hc1 := BXg.out.cell1
            have hf0 := BXg.out.free 0
            have hf1 := BXg.out.free 1
            go_simp
            have HF' := hide (And.intro (below_put HF.out.1 (show w.heap.size ≤ gg by have hx := LTS.out; omega) (.bool sw) (.slice mw lw kw)) (And.intro (HF.out.2.1.other (C := gg) (by have hx := LTS.out; omega) (.bool sw) (.slice mw lw kw)) (And.intro (HF.out.2.2.1.keep (BXg.out.keeps (by simp) (by simp) (.bool sw) (.slice mw lw kw))) (And.intro (HF.out.2.2.2.1.other (C := gg) (by have hx := LTS.out; omega) (.bool sw) (.slice mw lw kw)) (And.intro (HF.out.2.2.2.2.1.other (C := gg) (by have hx := LTS.out; omega) (.bool sw) (.slice mw lw kw)) (And.intro (HF.out.2.2.2.2.2.1.keep (BXg.out.keeps (by simp) (by simp) (.bool sw) (.slice mw lw kw))) (HF.out.2.2.2.2.2.2.keep (BXg.out.keeps (by simp) (by simp) (.bool sw) (.slice mw lw kw)))))))))
            replace TW := hide (TW.out.keep (BXg.out.keeps (by simp) (by simp) (.bool sw) (.slice mw lw kw)))
            replace BXg := hide (BXg.out.put (.bool sw) (.slice mw lw kw))
            refine hK _ _ (fun _ => HF'.out) ?_
            clear hK K HF hc0 hf0 hc1 hf1
            have HF := hide HF'.out
            clear HF'
            generalize ((t4.setCell ⟨gg, 0, none⟩ (.bool sw)).setCell ⟨gg, 1, none⟩ (.slice mw lw kw)) = ws1 at *
            refine Calm.take (i := 9) (v := ?_) (a' := ?_) (l' := #[true, true, true, true, true, true, true, true, true, true]) (d := some 19) rfl (by kernel_rfl) (by kernel_rfl) (by kernel_rfl) (by kernel_rfl) (fun _ _ _ h => h) HF.out rfl ?_ rfl rfl ?_ ?_
            rotate_left
            · intro w' hF; clear hF; go_simp; try rfl
            rotate_left
            · simp only [Act.put]; exact rfl
            refine Calm.done (by kernel_rfl) ?_
            go_wp2
            go_meet
            case rel => exact ⟨gg, sw, mw, lw, kw, rfl, rfl, HF.out.1, ⟨HF.out.2.1, HF.out.2.2.1⟩, HF.out.2.2.2.1, ⟨HF.out.2.2.2.2.1, HF.out.2.2.2.2.2.1⟩, HF.out.2.2.2.2.2.2, BXg.out, TW.out⟩
        · go_simp
          have al := below_alloc t2d (.cells #[.bool false, .slice none 0 0] 30)
          have HF' := hide (And.intro (HF.out.1.trans ((al).mono HF.out.1.size)) (And.intro (HF.out.2.1.step (al)) (And.intro (HF.out.2.2.1.below (al)) (And.intro (HF.out.2.2.2.1.step (al)) (And.intro (HF.out.2.2.2.2.1.step (al)) (And.intro (HF.out.2.2.2.2.2.1.below (al)) (HF.out.2.2.2.2.2.2.below (al))))))))
          have BXg := hide (Box2.new t2d 30 (.bool false) (.slice none 0 0))
          have LT1g := hide (HF.out.2.1.lt)
          have LT3g := hide (HF.out.2.2.2.1.lt)
          have LT4g := hide (HF.out.2.2.2.2.1.lt)
          have GEg := hide (HF.out.1.size)
          refine hK _ _ (fun _ => HF'.out) ?_
          clear hK K HF al
          have HF := hide HF'.out
          clear HF'
          generalize t2d.alloc (.cells #[.bool false, .slice none 0 0] 30) = wzg at *
          generalize t2d.heap.size = gg at *
          refine Calm.one (i := 2) (l' := #[true, true, true, false, false, false, false, true, false, false]) (by kernel_rfl) rfl rfl rfl fun K hK => ?_
          go_simp
          refine (rof_any c _ HL.out HH.out).mono ?_
          rintro e t3 ⟨v, rfl, n, hb⟩
          replace BXg := hide (BXg.out.step hb)
          have HF' := hide (And.intro (HF.out.1.trans ((hb).mono HF.out.1.size)) (And.intro (HF.out.2.1.step (hb)) (And.intro (HF.out.2.2.1.below (hb)) (And.intro (HF.out.2.2.2.1.step (hb)) (And.intro (HF.out.2.2.2.2.1.step (hb)) (And.intro (HF.out.2.2.2.2.2.1.below (hb)) (HF.out.2.2.2.2.2.2.below (hb))))))))
          have TC := hide (n)
          refine hK _ _ (fun _ => HF'.out) ?_
          clear hK K HF hb n
          have HF := hide HF'.out
          clear HF'
          refine Calm.one (i := 3) (l' := #[true, true, true, true, false, false, false, true, false, false]) (by kernel_rfl) rfl rfl rfl fun K hK => ?_
          go_simp
          refine (rover_any _ _ X c _ HF.out.2.2.1 TC.out (SzI.dlen7 SX.out (by decide)) (SzI.dlen7 SC.out (by decide)) HC.out).mono ?_
          rintro e t4 ⟨v, z, bb, rfl, n, hor, hb⟩
          obtain ⟨rfl, rfl⟩ : z = 0 ∧ bb = false := by rcases hor with ⟨_, h2, h3⟩ | ⟨h1, _⟩; exact ⟨h2, h3⟩; exact absurd h1 HZ.out
          obtain ⟨sw, mw, lw, kw, rfl, n⟩ := n.cells
          clear TC
          replace BXg := hide (BXg.out.step hb)
          have HF' := hide (And.intro (HF.out.1.trans ((hb).mono HF.out.1.size)) (And.intro (HF.out.2.1.step (hb)) (And.intro (HF.out.2.2.1.below (hb)) (And.intro (HF.out.2.2.2.1.step (hb)) (And.intro (HF.out.2.2.2.2.1.step (hb)) (And.intro (HF.out.2.2.2.2.2.1.below (hb)) (HF.out.2.2.2.2.2.2.below (hb))))))))
          have TW := hide (n)
          refine hK _ _ (fun _ => HF'.out) ?_
          clear hK K HF hb n hor
          have HF := hide HF'.out
          clear HF'
          refine Calm.take (i := 4) (v := ?_) (a' := ?_) (l' := #[true, true, true, true, true, false, false, true, false, false]) (d := some 97) rfl (by kernel_rfl) (by kernel_rfl) (by kernel_rfl) (by kernel_rfl) (fun _ _ _ h => h) HF.out rfl ?_ rfl rfl ?_ ?_
          rotate_left
          · intro w' hF; clear hF; go_simp; try rfl
          rotate_left
          · simp only [Act.put]; exact rfl
          refine Calm.take (i := 5) (v := ?_) (a' := ?_) (l' := #[true, true, true, true, true, true, false, true, false, false]) (d := some 102) rfl (by kernel_rfl) (by kernel_rfl) (by kernel_rfl) (by kernel_rfl) (fun _ _ _ h => h) HF.out rfl ?_ rfl rfl ?_ ?_
          rotate_left
          · intro w' hF; clear hF; go_simp; try rfl
          rotate_left
          · simp only [Act.put]; exact rfl
          refine Calm.take (i := 6) (v := ?_) (a' := ?_) (l' := #[true, true, true, true, true, true, true, true, false, false]) (d := some 103) rfl (by kernel_rfl) (by kernel_rfl) (by kernel_rfl) (by kernel_rfl) (fun _ _ _ h => h) HF.out rfl ?_ rfl rfl ?_ ?_
          rotate_left
          · intro w' hF; clear hF; go_simp; try rfl
          rotate_left
          · simp only [Act.put]; exact rfl
          refine Calm.one (i := 8) (l' := #[true, true, true, true, true, true, true, true, true, false]) (by kernel_rfl) rfl rfl rfl fun K hK => ?_
          have LTS := hide (And.intro LT1g.out (And.intro LT3g.out (And.intro LT4g.out GEg.out)))
          have hc0 := BXg.out.cell0
          have hc1 := BXg.out.cell1
          have hf0 := BXg.out.free 0
          have hf1 := BXg.out.free 1
          go_simp
          have HF' := hide (And.intro (below_put HF.out.1 (show w.heap.size ≤ gg by have hx := LTS.out; omega) (.bool sw) (.slice mw lw kw)) (And.intro (HF.out.2.1.other (C := gg) (by have hx := LTS.out; omega) (.bool sw) (.slice mw lw kw)) (And.intro (HF.out.2.2.1.keep (BXg.out.keeps (by simp) (by simp) (.bool sw) (.slice mw lw kw))) (And.intro (HF.out.2.2.2.1.other (C := gg) (by have hx := LTS.out; omega) (.bool sw) (.slice mw lw kw)) (And.intro (HF.out.2.2.2.2.1.other (C := gg) (by have hx := LTS.out; omega) (.bool sw) (.slice mw lw kw)) (And.intro (HF.out.2.2.2.2.2.1.keep (BXg.out.keeps (by simp) (by simp) (.bool sw) (.slice mw lw kw))) (HF.out.2.2.2.2.2.2.keep (BXg.out.keeps (by simp) (by simp) (.bool sw) (.slice mw lw kw)))))))))
          replace TW := hide (TW.out.keep (BXg.out.keeps (by simp) (by simp) (.bool sw) (.slice mw lw kw)))
          replace BXg := hide (BXg.out.put (.bool sw) (.slice mw lw kw))
          refine hK _ _ (fun _ => HF'.out) ?_
          clear hK K HF hc0 hf0 hc1 hf1
          have HF := hide HF'.out
          clear HF'
          generalize ((t4.setCell ⟨gg, 0, none⟩ (.bool sw)).setCell ⟨gg, 1, none⟩ (.slice mw lw kw)) = ws1 at *
          refine Calm.take (i := 9) (v := ?_) (a' := ?_) (l' := #[true, true, true, true, true, true, true, true, true, true]) (d := some 19) rfl (by kernel_rfl) (by kernel_rfl) (by kernel_rfl) (by kernel_rfl) (fun _ _ _ h => h) HF.out rfl ?_ rfl rfl ?_ ?_
          rotate_left
          · intro w' hF; clear hF; go_simp; try rfl
          rotate_left
          · simp only [Act.put]; exact rfl
          refine Calm.done (by kernel_rfl) ?_
          go_wp2
          go_meet
          case rel => exact ⟨gg, sw, mw, lw, kw, rfl, rfl, HF.out.1, ⟨HF.out.2.1, HF.out.2.2.1⟩, HF.out.2.2.2.1, ⟨HF.out.2.2.2.2.1, HF.out.2.2.2.2.2.1⟩, HF.out.2.2.2.2.2.2, BXg.out, TW.out⟩
      case rest =>
      obtain ⟨gg, sw, mw, lw, kw, rfl, rfl, hB, hP, hO, hX, hI, hW, hR⟩ := hcut
      clear HB Vp BO Vx TO
      have HB := hide hB
      have Vp := hide hP
      have BO := hide hO
      have Vx := hide hX
      have TO := hide hI
      have BW := hide hW
      have TW := hide hR
      clear hB hP hO hX hI hW hR
      generalize hwc : wc = t5 at *
      clear hwc
      have o0 := BO.out.cell0
      have o1 := BO.out.cell1
      go_wp2_with fail
      refine (zero_yes _ _ TO.out).mono ?_
      rintro e t6 ⟨rfl, hb⟩
      clear o0 o1
      replace HB := hide (HB.out.trans ((hb).mono HB.out.size))
      replace Vp := hide (Vp.out.step (hb))
      replace BO := hide (BO.out.step (hb))
      replace Vx := hide (Vx.out.step (hb))
      replace TO := hide (TO.out.below (hb))
      replace BW := hide (BW.out.step (hb))
      replace TW := hide (TW.out.below (hb))
      clear hb
      go_wp2_with fail
      refine (live_any _).mono ?_
      rintro e t7 ⟨rfl, hb⟩
      replace HB := hide (HB.out.trans ((hb).mono HB.out.size))
      replace Vp := hide (Vp.out.step (hb))
      replace BO := hide (BO.out.step (hb))
      replace Vx := hide (Vx.out.step (hb))
      replace TO := hide (TO.out.below (hb))
      replace BW := hide (BW.out.step (hb))
      replace TW := hide (TW.out.below (hb))
      clear hb
      go_wp2
      go_ret
      exact ⟨rfl, HB.out⟩
    · have HC := hide hc
      have HZ := hide hm
      have hcb : (c == 0) = false := by rw [beq_eq_false_iff_ne]; exact hc
      clear hm hc
      go_wp2_with fail
      clear hcb
      go_cut [18, 19] from 97 (fun pw bv wx => ∃ gg sw mw lw kw, pw = .pointer (some ⟨gg, 0, none⟩) ∧ bv = .bool true ∧ Below w.heap.size w wx ∧ RVar wx (gx + 1) sp mp lp kp X ∧ Box wx go (.bool so) (.slice mo lo ko) ∧ Var wx gx sx mx lx kx X ∧ IntAt wx (.agg #[.bool so, .slice mo lo ko]) (X / c) ∧ Box2 wx gg 30 (.bool sw) (.slice mw lw kw) ∧ RInt wx (.agg #[.bool sw, .slice mw lw kw]) (X / c))
      case first =>
        refine wp_calm (fun w' => Below w.heap.size w w' ∧ Box2 w' (gx + 1) 30 (.bool sp) (.slice mp lp kp) ∧ RInt w' (.agg #[.bool sp, .slice mp lp kp]) X ∧ Box w' go (.bool so) (.slice mo lo ko) ∧ Box w' gx (.bool sx) (.slice mx lx kx) ∧ IntAt w' (.agg #[.bool sx, .slice mx lx kx]) X ∧ IntAt w' (.agg #[.bool so, .slice mo lo ko]) (X / c)) (fun _ => true) 10 #[false, false, false, false, false, false, false, false, false, false] (by kernel_rfl) rfl rfl ?_
        have HF := hide (And.intro (HB.out.drew) (And.intro (Vp.out.box.drew) (And.intro (Vp.out.int.drew) (And.intro (BO.out.drew) (And.intro (Vx.out.box.drew) (And.intro (Vx.out.int.drew) (TO.out.drew)))))))
        generalize t2.drew = t2d at *
        refine Calm.take (i := 0) (v := ?_) (a' := ?_) (l' := #[true, false, false, false, false, false, false, false, false, false]) (d := some 98) rfl (by kernel_rfl) (by kernel_rfl) (by kernel_rfl) (by kernel_rfl) (fun _ _ _ h => h) HF.out rfl ?_ rfl rfl ?_ ?_
        rotate_left
        · intro w' hF; have f10 := hF.2.1.cell0; have f11 := hF.2.1.cell1; have f30 := hF.2.2.2.1.cell0; have f31 := hF.2.2.2.1.cell1; have f40 := hF.2.2.2.2.1.cell0; have f41 := hF.2.2.2.2.1.cell1; clear hF; go_simp; try rfl
        rotate_left
        · simp only [Act.put]; exact rfl
        refine Calm.take (i := 1) (v := ?_) (a' := ?_) (l' := #[true, true, false, false, false, false, false, false, false, false]) (d := some 99) rfl (by kernel_rfl) (by kernel_rfl) (by kernel_rfl) (by kernel_rfl) (fun _ _ _ h => h) HF.out rfl ?_ rfl rfl ?_ ?_
        rotate_left
        · intro w' hF; clear hF; go_simp; try rfl
        rotate_left
        · simp only [Act.put]; exact rfl
        refine Calm.two (i := 2) (j := 7) (l := #[true, true, true, false, false, false, false, false, false, false]) (l' := #[true, true, false, false, false, false, false, true, false, false]) (by kernel_rfl) rfl rfl rfl rfl rfl rfl (fun K hK => ?_) (fun K hK => ?_)
        · go_simp
          refine (rof_any c _ HL.out HH.out).mono ?_
          rintro e t3 ⟨v, rfl, n, hb⟩
          have HF' := hide (And.intro (HF.out.1.trans ((hb).mono HF.out.1.size)) (And.intro (HF.out.2.1.step (hb)) (And.intro (HF.out.2.2.1.below (hb)) (And.intro (HF.out.2.2.2.1.step (hb)) (And.intro (HF.out.2.2.2.2.1.step (hb)) (And.intro (HF.out.2.2.2.2.2.1.below (hb)) (HF.out.2.2.2.2.2.2.below (hb))))))))
          have TC := hide (n)
          refine hK _ _ (fun _ => HF'.out) ?_
          clear hK K HF hb n
          have HF := hide HF'.out
          clear HF'
          refine Calm.two (i := 3) (j := 7) (l := #[true, true, true, true, false, false, false, false, false, false]) (l' := #[true, true, true, false, false, false, false, true, false, false]) (by kernel_rfl) rfl rfl rfl rfl rfl rfl (fun K hK => ?_) (fun K hK => ?_)
          · go_simp
            refine (rover_any _ _ X c _ HF.out.2.2.1 TC.out (SzI.dlen7 SX.out (by decide)) (SzI.dlen7 SC.out (by decide)) HC.out).mono ?_
            rintro e t4 ⟨v, z, bb, rfl, n, hor, hb⟩
            obtain ⟨rfl, rfl⟩ : z = X / c ∧ bb = true := by rcases hor with ⟨h1, _⟩ | ⟨_, h2, h3⟩; exact absurd HZ.out h1; exact ⟨h2, h3⟩
            obtain ⟨sw, mw, lw, kw, rfl, n⟩ := n.cells
            clear TC
            have HF' := hide (And.intro (HF.out.1.trans ((hb).mono HF.out.1.size)) (And.intro (HF.out.2.1.step (hb)) (And.intro (HF.out.2.2.1.below (hb)) (And.intro (HF.out.2.2.2.1.step (hb)) (And.intro (HF.out.2.2.2.2.1.step (hb)) (And.intro (HF.out.2.2.2.2.2.1.below (hb)) (HF.out.2.2.2.2.2.2.below (hb))))))))
            have TW := hide (n)
            refine hK _ _ (fun _ => HF'.out) ?_
            clear hK K HF hb n hor
            have HF := hide HF'.out
            clear HF'
            refine Calm.take (i := 4) (v := ?_) (a' := ?_) (l' := #[true, true, true, true, true, false, false, false, false, false]) (d := some 97) rfl (by kernel_rfl) (by kernel_rfl) (by kernel_rfl) (by kernel_rfl) (fun _ _ _ h => h) HF.out rfl ?_ rfl rfl ?_ ?_
            rotate_left
            · intro w' hF; clear hF; go_simp; try rfl
            rotate_left
            · simp only [Act.put]; exact rfl
            refine Calm.take (i := 5) (v := ?_) (a' := ?_) (l' := #[true, true, true, true, true, true, false, false, false, false]) (d := some 102) rfl (by kernel_rfl) (by kernel_rfl) (by kernel_rfl) (by kernel_rfl) (fun _ _ _ h => h) HF.out rfl ?_ rfl rfl ?_ ?_
            rotate_left
            · intro w' hF; clear hF; go_simp; try rfl
            rotate_left
            · simp only [Act.put]; exact rfl
            refine Calm.take (i := 6) (v := ?_) (a' := ?_) (l' := #[true, true, true, true, true, true, true, false, false, false]) (d := some 103) rfl (by kernel_rfl) (by kernel_rfl) (by kernel_rfl) (by kernel_rfl) (fun _ _ _ h => h) HF.out rfl ?_ rfl rfl ?_ ?_
            rotate_left
            · intro w' hF; clear hF; go_simp; try rfl
            rotate_left
            · simp only [Act.put]; exact rfl
            refine Calm.one (i := 7) (l' := #[true, true, true, true, true, true, true, true, false, false]) (by kernel_rfl) rfl rfl rfl fun K hK => ?_
            go_simp
            have al := below_alloc t4 (.cells #[.bool false, .slice none 0 0] 30)
            have HF' := hide (And.intro (HF.out.1.trans ((al).mono HF.out.1.size)) (And.intro (HF.out.2.1.step (al)) (And.intro (HF.out.2.2.1.below (al)) (And.intro (HF.out.2.2.2.1.step (al)) (And.intro (HF.out.2.2.2.2.1.step (al)) (And.intro (HF.out.2.2.2.2.2.1.below (al)) (HF.out.2.2.2.2.2.2.below (al))))))))
            have BXg := hide (Box2.new t4 30 (.bool false) (.slice none 0 0))
            replace TW := hide (TW.out.below (al))
            have LT1g := hide (HF.out.2.1.lt)
            have LT3g := hide (HF.out.2.2.2.1.lt)
            have LT4g := hide (HF.out.2.2.2.2.1.lt)
            have GEg := hide (HF.out.1.size)
            refine hK _ _ (fun _ => HF'.out) ?_
            clear hK K HF al
            have HF := hide HF'.out
            clear HF'
            generalize t4.alloc (.cells #[.bool false, .slice none 0 0] 30) = wzg at *
            generalize t4.heap.size = gg at *
            refine Calm.one (i := 8) (l' := #[true, true, true, true, true, true, true, true, true, false]) (by kernel_rfl) rfl rfl rfl fun K hK => ?_
            have LTS := hide (And.intro LT1g.out (And.intro LT3g.out (And.intro LT4g.out GEg.out)))
            have hc0 := BXg.out.cell0
            have hc1 := BXg.out.cell1
            have hf0 := BXg.out.free 0
            have hf1 := BXg.out.free 1
            go_simp
            have HF' := hide (And.intro (below_put HF.out.1 (show w.heap.size ≤ gg by have hx := LTS.out; omega) (.bool sw) (.slice mw lw kw)) (And.intro (HF.out.2.1.other (C := gg) (by have hx := LTS.out; omega) (.bool sw) (.slice mw lw kw)) (And.intro (HF.out.2.2.1.keep (BXg.out.keeps (by simp) (by simp) (.bool sw) (.slice mw lw kw))) (And.intro (HF.out.2.2.2.1.other (C := gg) (by have hx := LTS.out; omega) (.bool sw) (.slice mw lw kw)) (And.intro (HF.out.2.2.2.2.1.other (C := gg) (by have hx := LTS.out; omega) (.bool sw) (.slice mw lw kw)) (And.intro (HF.out.2.2.2.2.2.1.keep (BXg.out.keeps (by simp) (by simp) (.bool sw) (.slice mw lw kw))) (HF.out.2.2.2.2.2.2.keep (BXg.out.keeps (by simp) (by simp) (.bool sw) (.slice mw lw kw)))))))))
            replace TW := hide (TW.out.keep (BXg.out.keeps (by simp) (by simp) (.bool sw) (.slice mw lw kw)))
            replace BXg := hide (BXg.out.put (.bool sw) (.slice mw lw kw))
            refine hK _ _ (fun _ => HF'.out) ?_
            clear hK K HF hc0 hf0 hc1 hf1
            have HF := hide HF'.out
            clear HF'
            generalize ((wzg.setCell ⟨gg, 0, none⟩ (.bool sw)).setCell ⟨gg, 1, none⟩ (.slice mw lw kw)) = ws1 at *
            refine Calm.take (i := 9) (v := ?_) (a' := ?_) (l' := #[true, true, true, true, true, true, true, true, true, true]) (d := some 19) rfl (by kernel_rfl) (by kernel_rfl) (by kernel_rfl) (by kernel_rfl) (fun _ _ _ h => h) HF.out rfl ?_ rfl rfl ?_ ?_
            rotate_left
            · intro w' hF; clear hF; go_simp; try rfl
            rotate_left
            · simp only [Act.put]; exact rfl
            refine Calm.done (by kernel_rfl) ?_
            go_wp2
            go_meet
            case rel => exact ⟨gg, sw, mw, lw, kw, rfl, rfl, HF.out.1, ⟨HF.out.2.1, HF.out.2.2.1⟩, HF.out.2.2.2.1, ⟨HF.out.2.2.2.2.1, HF.out.2.2.2.2.2.1⟩, HF.out.2.2.2.2.2.2, BXg.out, TW.out⟩
          · go_simp
            have al := below_alloc t3 (.cells #[.bool false, .slice none 0 0] 30)
            have HF' := hide (And.intro (HF.out.1.trans ((al).mono HF.out.1.size)) (And.intro (HF.out.2.1.step (al)) (And.intro (HF.out.2.2.1.below (al)) (And.intro (HF.out.2.2.2.1.step (al)) (And.intro (HF.out.2.2.2.2.1.step (al)) (And.intro (HF.out.2.2.2.2.2.1.below (al)) (HF.out.2.2.2.2.2.2.below (al))))))))
            have BXg := hide (Box2.new t3 30 (.bool false) (.slice none 0 0))
            replace TC := hide (TC.out.below (al))
            have LT1g := hide (HF.out.2.1.lt)
            have LT3g := hide (HF.out.2.2.2.1.lt)
            have LT4g := hide (HF.out.2.2.2.2.1.lt)
            have GEg := hide (HF.out.1.size)
            refine hK _ _ (fun _ => HF'.out) ?_
            clear hK K HF al
            have HF := hide HF'.out
            clear HF'
            generalize t3.alloc (.cells #[.bool false, .slice none 0 0] 30) = wzg at *
            generalize t3.heap.size = gg at *
            refine Calm.one (i := 3) (l' := #[true, true, true, true, false, false, false, true, false, false]) (by kernel_rfl) rfl rfl rfl fun K hK => ?_
            go_simp
            refine (rover_any _ _ X c _ HF.out.2.2.1 TC.out (SzI.dlen7 SX.out (by decide)) (SzI.dlen7 SC.out (by decide)) HC.out).mono ?_
            rintro e t4 ⟨v, z, bb, rfl, n, hor, hb⟩
            obtain ⟨rfl, rfl⟩ : z = X / c ∧ bb = true := by rcases hor with ⟨h1, _⟩ | ⟨_, h2, h3⟩; exact absurd HZ.out h1; exact ⟨h2, h3⟩
            obtain ⟨sw, mw, lw, kw, rfl, n⟩ := n.cells
            clear TC
            replace BXg := hide (BXg.out.step hb)
            have HF' := hide (And.intro (HF.out.1.trans ((hb).mono HF.out.1.size)) (And.intro (HF.out.2.1.step (hb)) (And.intro (HF.out.2.2.1.below (hb)) (And.intro (HF.out.2.2.2.1.step (hb)) (And.intro (HF.out.2.2.2.2.1.step (hb)) (And.intro (HF.out.2.2.2.2.2.1.below (hb)) (HF.out.2.2.2.2.2.2.below (hb))))))))
            have TW := hide (n)
            refine hK _ _ (fun _ => HF'.out) ?_
            clear hK K HF hb n hor
            have HF := hide HF'.out
            clear HF'
            refine Calm.take (i := 4) (v := ?_) (a' := ?_) (l' := #[true, true, true, true, true, false, false, true, false, false]) (d := some 97) rfl (by kernel_rfl) (by kernel_rfl) (by kernel_rfl) (by kernel_rfl) (fun _ _ _ h => h) HF.out rfl ?_ rfl rfl ?_ ?_
            rotate_left
            · intro w' hF; clear hF; go_simp; try rfl
            rotate_left
            · simp only [Act.put]; exact rfl
            refine Calm.take (i := 5) (v := ?_) (a' := ?_) (l' := #[true, true, true, true, true, true, false, true, false, false]) (d := some 102) rfl (by kernel_rfl) (by kernel_rfl) (by kernel_rfl) (by kernel_rfl) (fun _ _ _ h => h) HF.out rfl ?_ rfl rfl ?_ ?_
            rotate_left
            · intro w' hF; clear hF; go_simp; try rfl
            rotate_left
            · simp only [Act.put]; exact rfl
            refine Calm.take (i := 6) (v := ?_) (a' := ?_) (l' := #[true, true, true, true, true, true, true, true, false, false]) (d := some 103) rfl (by kernel_rfl) (by kernel_rfl) (by kernel_rfl) (by kernel_rfl) (fun _ _ _ h => h) HF.out rfl ?_ rfl rfl ?_ ?_
            rotate_left
            · intro w' hF; clear hF; go_simp; try rfl
            rotate_left
            · simp only [Act.put]; exact rfl
            refine Calm.one (i := 8) (l' := #[true, true, true, true, true, true, true, true, true, false]) (by kernel_rfl) rfl rfl rfl fun K hK => ?_
            have LTS := hide (And.intro LT1g.out (And.intro LT3g.out (And.intro LT4g.out GEg.out)))
            have hc0 := BXg.out.cell0
            have hc1 := BXg.out.cell1
            have hf0 := BXg.out.free 0
            have hf1 := BXg.out.free 1
            go_simp
            have HF' := hide (And.intro (below_put HF.out.1 (show w.heap.size ≤ gg by have hx := LTS.out; omega) (.bool sw) (.slice mw lw kw)) (And.intro (HF.out.2.1.other (C := gg) (by have hx := LTS.out; omega) (.bool sw) (.slice mw lw kw)) (And.intro (HF.out.2.2.1.keep (BXg.out.keeps (by simp) (by simp) (.bool sw) (.slice mw lw kw))) (And.intro (HF.out.2.2.2.1.other (C := gg) (by have hx := LTS.out; omega) (.bool sw) (.slice mw lw kw)) (And.intro (HF.out.2.2.2.2.1.other (C := gg) (by have hx := LTS.out; omega) (.bool sw) (.slice mw lw kw)) (And.intro (HF.out.2.2.2.2.2.1.keep (BXg.out.keeps (by simp) (by simp) (.bool sw) (.slice mw lw kw))) (HF.out.2.2.2.2.2.2.keep (BXg.out.keeps (by simp) (by simp) (.bool sw) (.slice mw lw kw)))))))))
            replace TW := hide (TW.out.keep (BXg.out.keeps (by simp) (by simp) (.bool sw) (.slice mw lw kw)))
            replace BXg := hide (BXg.out.put (.bool sw) (.slice mw lw kw))
            refine hK _ _ (fun _ => HF'.out) ?_
            clear hK K HF hc0 hf0 hc1 hf1
            have HF := hide HF'.out
            clear HF'
            generalize ((t4.setCell ⟨gg, 0, none⟩ (.bool sw)).setCell ⟨gg, 1, none⟩ (.slice mw lw kw)) = ws1 at *
            refine Calm.take (i := 9) (v := ?_) (a' := ?_) (l' := #[true, true, true, true, true, true, true, true, true, true]) (d := some 19) rfl (by kernel_rfl) (by kernel_rfl) (by kernel_rfl) (by kernel_rfl) (fun _ _ _ h => h) HF.out rfl ?_ rfl rfl ?_ ?_
            rotate_left
            · intro w' hF; clear hF; go_simp; try rfl
            rotate_left
            · simp only [Act.put]; exact rfl
            refine Calm.done (by kernel_rfl) ?_
            go_wp2
            go_meet
            case rel => exact ⟨gg, sw, mw, lw, kw, rfl, rfl, HF.out.1, ⟨HF.out.2.1, HF.out.2.2.1⟩, HF.out.2.2.2.1, ⟨HF.out.2.2.2.2.1, HF.out.2.2.2.2.2.1⟩, HF.out.2.2.2.2.2.2, BXg.out, TW.out⟩
        · go_simp
          have al := below_alloc t2d (.cells #[.bool false, .slice none 0 0] 30)
          have HF' := hide (And.intro (HF.out.1.trans ((al).mono HF.out.1.size)) (And.intro (HF.out.2.1.step (al)) (And.intro (HF.out.2.2.1.below (al)) (And.intro (HF.out.2.2.2.1.step (al)) (And.intro (HF.out.2.2.2.2.1.step (al)) (And.intro (HF.out.2.2.2.2.2.1.below (al)) (HF.out.2.2.2.2.2.2.below (al))))))))
          have BXg := hide (Box2.new t2d 30 (.bool false) (.slice none 0 0))
          have LT1g := hide (HF.out.2.1.lt)
          have LT3g := hide (HF.out.2.2.2.1.lt)
          have LT4g := hide (HF.out.2.2.2.2.1.lt)
          have GEg := hide (HF.out.1.size)
          refine hK _ _ (fun _ => HF'.out) ?_
          clear hK K HF al
          have HF := hide HF'.out
          clear HF'
          generalize t2d.alloc (.cells #[.bool false, .slice none 0 0] 30) = wzg at *
          generalize t2d.heap.size = gg at *
          refine Calm.one (i := 2) (l' := #[true, true, true, false, false, false, false, true, false, false]) (by kernel_rfl) rfl rfl rfl fun K hK => ?_
          go_simp
          refine (rof_any c _ HL.out HH.out).mono ?_
          rintro e t3 ⟨v, rfl, n, hb⟩
          replace BXg := hide (BXg.out.step hb)
          have HF' := hide (And.intro (HF.out.1.trans ((hb).mono HF.out.1.size)) (And.intro (HF.out.2.1.step (hb)) (And.intro (HF.out.2.2.1.below (hb)) (And.intro (HF.out.2.2.2.1.step (hb)) (And.intro (HF.out.2.2.2.2.1.step (hb)) (And.intro (HF.out.2.2.2.2.2.1.below (hb)) (HF.out.2.2.2.2.2.2.below (hb))))))))
          have TC := hide (n)
          refine hK _ _ (fun _ => HF'.out) ?_
          clear hK K HF hb n
          have HF := hide HF'.out
          clear HF'
          refine Calm.one (i := 3) (l' := #[true, true, true, true, false, false, false, true, false, false]) (by kernel_rfl) rfl rfl rfl fun K hK => ?_
          go_simp
          refine (rover_any _ _ X c _ HF.out.2.2.1 TC.out (SzI.dlen7 SX.out (by decide)) (SzI.dlen7 SC.out (by decide)) HC.out).mono ?_
          rintro e t4 ⟨v, z, bb, rfl, n, hor, hb⟩
          obtain ⟨rfl, rfl⟩ : z = X / c ∧ bb = true := by rcases hor with ⟨h1, _⟩ | ⟨_, h2, h3⟩; exact absurd HZ.out h1; exact ⟨h2, h3⟩
          obtain ⟨sw, mw, lw, kw, rfl, n⟩ := n.cells
          clear TC
          replace BXg := hide (BXg.out.step hb)
          have HF' := hide (And.intro (HF.out.1.trans ((hb).mono HF.out.1.size)) (And.intro (HF.out.2.1.step (hb)) (And.intro (HF.out.2.2.1.below (hb)) (And.intro (HF.out.2.2.2.1.step (hb)) (And.intro (HF.out.2.2.2.2.1.step (hb)) (And.intro (HF.out.2.2.2.2.2.1.below (hb)) (HF.out.2.2.2.2.2.2.below (hb))))))))
          have TW := hide (n)
          refine hK _ _ (fun _ => HF'.out) ?_
          clear hK K HF hb n hor
          have HF := hide HF'.out
          clear HF'
          refine Calm.take (i := 4) (v := ?_) (a' := ?_) (l' := #[true, true, true, true, true, false, false, true, false, false]) (d := some 97) rfl (by kernel_rfl) (by kernel_rfl) (by kernel_rfl) (by kernel_rfl) (fun _ _ _ h => h) HF.out rfl ?_ rfl rfl ?_ ?_
          rotate_left
          · intro w' hF; clear hF; go_simp; try rfl
          rotate_left
          · simp only [Act.put]; exact rfl
          refine Calm.take (i := 5) (v := ?_) (a' := ?_) (l' := #[true, true, true, true, true, true, false, true, false, false]) (d := some 102) rfl (by kernel_rfl) (by kernel_rfl) (by kernel_rfl) (by kernel_rfl) (fun _ _ _ h => h) HF.out rfl ?_ rfl rfl ?_ ?_
          rotate_left
          · intro w' hF; clear hF; go_simp; try rfl
          rotate_left
          · simp only [Act.put]; exact rfl
          refine Calm.take (i := 6) (v := ?_) (a' := ?_) (l' := #[true, true, true, true, true, true, true, true, false, false]) (d := some 103) rfl (by kernel_rfl) (by kernel_rfl) (by kernel_rfl) (by kernel_rfl) (fun _ _ _ h => h) HF.out rfl ?_ rfl rfl ?_ ?_
          rotate_left
          · intro w' hF; clear hF; go_simp; try rfl
          rotate_left
          · simp only [Act.put]; exact rfl
          refine Calm.one (i := 8) (l' := #[true, true, true, true, true, true, true, true, true, false]) (by kernel_rfl) rfl rfl rfl fun K hK => ?_
          have LTS := hide (And.intro LT1g.out (And.intro LT3g.out (And.intro LT4g.out GEg.out)))
          have hc0 := BXg.out.cell0
          have hc1 := BXg.out.cell1
          have hf0 := BXg.out.free 0
          have hf1 := BXg.out.free 1
          go_simp
          have HF' := hide (And.intro (below_put HF.out.1 (show w.heap.size ≤ gg by have hx := LTS.out; omega) (.bool sw) (.slice mw lw kw)) (And.intro (HF.out.2.1.other (C := gg) (by have hx := LTS.out; omega) (.bool sw) (.slice mw lw kw)) (And.intro (HF.out.2.2.1.keep (BXg.out.keeps (by simp) (by simp) (.bool sw) (.slice mw lw kw))) (And.intro (HF.out.2.2.2.1.other (C := gg) (by have hx := LTS.out; omega) (.bool sw) (.slice mw lw kw)) (And.intro (HF.out.2.2.2.2.1.other (C := gg) (by have hx := LTS.out; omega) (.bool sw) (.slice mw lw kw)) (And.intro (HF.out.2.2.2.2.2.1.keep (BXg.out.keeps (by simp) (by simp) (.bool sw) (.slice mw lw kw))) (HF.out.2.2.2.2.2.2.keep (BXg.out.keeps (by simp) (by simp) (.bool sw) (.slice mw lw kw)))))))))
          replace TW := hide (TW.out.keep (BXg.out.keeps (by simp) (by simp) (.bool sw) (.slice mw lw kw)))
          replace BXg := hide (BXg.out.put (.bool sw) (.slice mw lw kw))
          refine hK _ _ (fun _ => HF'.out) ?_
          clear hK K HF hc0 hf0 hc1 hf1
          have HF := hide HF'.out
          clear HF'
          generalize ((t4.setCell ⟨gg, 0, none⟩ (.bool sw)).setCell ⟨gg, 1, none⟩ (.slice mw lw kw)) = ws1 at *
          refine Calm.take (i := 9) (v := ?_) (a' := ?_) (l' := #[true, true, true, true, true, true, true, true, true, true]) (d := some 19) rfl (by kernel_rfl) (by kernel_rfl) (by kernel_rfl) (by kernel_rfl) (fun _ _ _ h => h) HF.out rfl ?_ rfl rfl ?_ ?_
          rotate_left
          · intro w' hF; clear hF; go_simp; try rfl
          rotate_left
          · simp only [Act.put]; exact rfl
          refine Calm.done (by kernel_rfl) ?_
          go_wp2
          go_meet
          case rel => exact ⟨gg, sw, mw, lw, kw, rfl, rfl, HF.out.1, ⟨HF.out.2.1, HF.out.2.2.1⟩, HF.out.2.2.2.1, ⟨HF.out.2.2.2.2.1, HF.out.2.2.2.2.2.1⟩, HF.out.2.2.2.2.2.2, BXg.out, TW.out⟩
      case rest =>
      obtain ⟨gg, sw, mw, lw, kw, rfl, rfl, hB, hP, hO, hX, hI, hW, hR⟩ := hcut
      clear HB Vp BO Vx TO
      have HB := hide hB
      have Vp := hide hP
      have BO := hide hO
      have Vx := hide hX
      have TO := hide hI
      have BW := hide hW
      have TW := hide hR
      clear hB hP hO hX hI hW hR
      generalize hwc : wc = t5 at *
      clear hwc
      have x0 := Vx.out.box.cell0
      have x1 := Vx.out.box.cell1
      go_wp2_with fail
      refine (itimes_any _ X c _ Vx.out.int (SzI.len SX.out (by decide)) HL.out HH.out).mono ?_
      rintro e t6 ⟨v, rfl, nT, hb⟩
      clear x0 x1
      replace HB := hide (HB.out.trans ((hb).mono HB.out.size))
      replace Vp := hide (Vp.out.step (hb))
      replace BO := hide (BO.out.step (hb))
      replace Vx := hide (Vx.out.step (hb))
      replace TO := hide (TO.out.below (hb))
      replace BW := hide (BW.out.step (hb))
      replace TW := hide (TW.out.below (hb))
      have TT := hide (nT)
      clear hb nT
      go_wp2_with fail
      refine (iover_any _ (X * c) c _ TT.out (SzI.len (SzI.mul SX.out SC.out) (by decide)) HL.out HH.out).mono ?_
      rintro e t7 ⟨v, zb, fb, rfl, nB, hob, hb⟩
      obtain ⟨rfl, rfl⟩ : zb = X ∧ fb = 0 := by
        rcases hob with ⟨h, _⟩ | ⟨_, h, _⟩ | ⟨_, _, h2, h3⟩
        · exact absurd h HC.out
        · exact absurd (Int.mul_emod_left X c) h
        · exact ⟨by rw [h2, Int.mul_ediv_cancel _ HC.out], h3⟩
      obtain ⟨sb, mb, lb, kb, rfl, nB⟩ := nB.cells
      replace HB := hide (HB.out.trans ((hb).mono HB.out.size))
      replace Vp := hide (Vp.out.step (hb))
      replace BO := hide (BO.out.step (hb))
      replace Vx := hide (Vx.out.step (hb))
      replace TO := hide (TO.out.below (hb))
      replace BW := hide (BW.out.step (hb))
      replace TW := hide (TW.out.below (hb))
      replace TT := hide (TT.out.below (hb))
      have TB := hide (nB)
      clear hb nB hob
      clear TT
      go_upto_region 21 with fail
      replace HB := hide (HB.out.trans ((below_alloc t7 (.cells #[.bool sb, .slice mb lb kb] 28)).mono HB.out.size))
      replace Vp := hide (Vp.out.step (below_alloc t7 (.cells #[.bool sb, .slice mb lb kb] 28)))
      replace BO := hide (BO.out.step (below_alloc t7 (.cells #[.bool sb, .slice mb lb kb] 28)))
      replace Vx := hide (Vx.out.step (below_alloc t7 (.cells #[.bool sb, .slice mb lb kb] 28)))
      replace TO := hide (TO.out.below (below_alloc t7 (.cells #[.bool sb, .slice mb lb kb] 28)))
      replace BW := hide (BW.out.step (below_alloc t7 (.cells #[.bool sb, .slice mb lb kb] 28)))
      replace TW := hide (TW.out.below (below_alloc t7 (.cells #[.bool sb, .slice mb lb kb] 28)))
      replace TB := hide (TB.out.below (below_alloc t7 (.cells #[.bool sb, .slice mb lb kb] 28)))
      have BB' := hide (Box.new t7 (.bool sb) (.slice mb lb kb))
      generalize t7.alloc (.cells #[.bool sb, .slice mb lb kb] 28) = t8 at *
      generalize t7.heap.size = gb at *
      have o0 := BO.out.cell0
      have o1 := BO.out.cell1
      have u0 := BW.out.cell0
      have u1 := BW.out.cell1
      go_wp2_with fail
      refine (is_yes _ _ (zb / c) _ TO.out TW.out (SzI.len (SzI.ediv SX.out c) (by decide)) (Nat.le_trans (SzI.dlen (SzI.ediv SX.out c) (by decide)) (by decide))).mono ?_
      rintro e t9 ⟨rfl, hb⟩
      replace HB := hide (HB.out.trans ((hb).mono HB.out.size))
      replace Vp := hide (Vp.out.step (hb))
      replace BO := hide (BO.out.step (hb))
      replace Vx := hide (Vx.out.step (hb))
      replace TO := hide (TO.out.below (hb))
      replace BW := hide (BW.out.step (hb))
      replace TW := hide (TW.out.below (hb))
      replace TB := hide (TB.out.below (hb))
      replace BB' := hide (BB'.out.step (hb))
      clear hb
      clear o0 o1 u0 u1
      have b0 := BB'.out.cell0
      have b1 := BB'.out.cell1
      have p0 := Vp.out.box.cell0
      have p1 := Vp.out.box.cell1
      go_wp2_with fail
      refine (is_yes _ _ zb _ TB.out Vp.out.int (SzI.len SX.out (by decide)) (Nat.le_trans (SzI.dlen SX.out (by decide)) (by decide))).mono ?_
      rintro e t10 ⟨rfl, hb⟩
      replace HB := hide (HB.out.trans ((hb).mono HB.out.size))
      replace Vp := hide (Vp.out.step (hb))
      replace BO := hide (BO.out.step (hb))
      replace Vx := hide (Vx.out.step (hb))
      replace TO := hide (TO.out.below (hb))
      replace BW := hide (BW.out.step (hb))
      replace TW := hide (TW.out.below (hb))
      replace TB := hide (TB.out.below (hb))
      replace BB' := hide (BB'.out.step (hb))
      clear hb
      clear b0 b1 p0 p1
      go_wp2
      go_ret
      exact ⟨rfl, HB.out⟩
end Go.Proofs.Ythlkfiocmahmoaa
