/- The document's answers for layer 2 (swageref02): Over. -/
import Derived.Test.YtbaicocncalfaaaR2DM
import Derived.Deep.Cut
namespace Go.Proofs.Ytbaicocncalfaaa
open Go.RowKit

theorem ret_rover {fn : Func} {R : Ending → World → Prop} {a : Act} {w : World} {p u : Tmp} (h : fn.results = #[.cell p 30, .tmp u]) (g : Nat) (x y : Value)
    (hp : a.tmps.getD p undef = .pointer (some ⟨g, 0, none⟩)) (hg : Box2 w g 30 x y) (hd : a.defers = []) (hR : R (.returned (.tuple #[.agg #[x, y], a.tmps.getD u undef])) w) : bodyPost Try.prog fn R .ret a w := by
  refine bodyPost_ret ?_ hd hR
  have hp' : a.tmps[p]?.getD undef = .pointer (some ⟨g, 0, none⟩) := by simpa using hp
  simp [results, h, hp', asAddr, run_loadVar_row w g 30 30 #[x, y] (0, 0) _ hg Try.underlying30 rfl Try.infoRef]
theorem rint_zero (w : World) : RInt w (.agg #[.bool false, .slice none 0 0]) 0 := ⟨false, 0, none, 0, rfl, Nums.nil_mk _ _ _ (Nat.zero_le _), rfl, fun _ => rfl⟩
theorem RInt.len {w : World} {s : Bool} {m : Option Addr} {n c : Nat} {z : Int} (h : RInt w (.agg #[.bool s, .slice m n c]) z) : (z = 0 → n = 0) ∧ (z ≠ 0 → 0 < n) ∧ c ≤ maxLen ∧ n ≤ c := by
  obtain ⟨b, k, a, c', he, hn, rfl, h0⟩ := h
  simp only [Value.agg.injEq, Array.mk.injEq, List.cons.injEq, Value.bool.injEq, Value.slice.injEq, and_true] at he
  obtain ⟨rfl, rfl, rfl, rfl⟩ := he
  obtain ⟨_, a', c'', he, h1, h2, _⟩ := hn
  simp only [Value.slice.injEq] at he
  obtain ⟨_, _, rfl⟩ := he
  refine ⟨fun h => ?_, fun h => ?_, h2, h1⟩
  · have : k = 0 := by have := congrArg Int.natAbs h; rw [sg_abs] at this; simpa using this
    rw [this]; rfl
  · rcases Nat.eq_zero_or_pos k with e | e
    · rw [e, sg_zero] at h; exact absurd rfl h
    · rw [D.lim_pos e]; simp

/-- what Over answers -/
def ROverP (x y : Int) (w : World) (e : Ending) (w' : World) : Prop := ∃ v z b, e = .returned (.tuple #[v, .bool b]) ∧ RInt w' v z ∧ ((x % y ≠ 0 ∧ z = 0 ∧ b = false) ∨ (x % y = 0 ∧ z = x / y ∧ b = true)) ∧ Below w.heap.size w w'

set_option maxRecDepth 100000 in
set_option maxHeartbeats 4000000 in
theorem rover_any (v1 v2 : Value) (x y : Int) (w : World) (h1 : RInt w v1 x) (h2 : RInt w v2 y) (l1 : (D.lim x.natAbs).length ≤ 10000000) (l2 : (D.lim y.natAbs).length ≤ 10000000) (hy : y ≠ 0) :
    Calls Try.prog 55 #[v1, v2] w fun e w' => ROverP x y w e w' := by
  obtain ⟨s1, a1, L1, c1, rfl, i1⟩ := h1.cells
  obtain ⟨s2, a2, L2, c2, rfl, i2⟩ := h2.cells
  have HE := hide (nboxes3 30 w (.bool s1) (.slice a1 L1 c1) (.bool s2) (.slice a2 L2 c2) (.bool false) (.slice none 0 0))
  have I1 := hide (i1.below HE.out.2.2.2)
  have I2 := hide (i2.below HE.out.2.2.2)
  have HB := hide HE.out.2.2.2
  have P2 := hide HE.out.2.2.1
  clear h1 h2 i1 i2 HE
  go_enter Try.func55, Try.ntmps55
  go_wp2_with fail
  refine (rdm_any _ _ x y _ I1.out I2.out l1 l2 hy).mono ?_
  rintro e w1 ⟨q, r, rfl, nq, nr, hb⟩
  obtain ⟨sq, mq, kq, cq, rfl, nq⟩ := nq.cells
  obtain ⟨sr, mr, kr, cr, rfl, nr⟩ := nr.cells
  replace HB := hide (HB.out.trans (hb.mono HB.out.size))
  replace P2 := hide (P2.out.step hb)
  have hal1 := below_alloc w1 (.cells #[.bool sq, .slice mq kq cq] 30)
  have hal2 := below_alloc (w1.alloc (.cells #[.bool sq, .slice mq kq cq] 30)) (.cells #[.bool sr, .slice mr kr cr] 30)
  have hal := hal1.trans (hal2.mono (by rw [World.size_alloc]; omega))
  have LT := hide P2.out.lt
  have PQ := (Box2.new w1 30 (.bool sq) (.slice mq kq cq)).step hal2
  have PR := Box2.new (w1.alloc (.cells #[.bool sq, .slice mq kq cq] 30)) 30 (.bool sr) (.slice mr kr cr)
  rw [World.size_alloc] at PR
  replace HB := hide (HB.out.trans (hal.mono HB.out.size))
  replace P2 := hide (P2.out.step hal)
  have IQ := hide (nq.below hal)
  have HLR := hide nr.len
  replace PQ := hide PQ
  replace PR := hide PR
  clear hb nq nr hal hal1 hal2 I1 I2
  go_upto_region 2 with fail
  generalize (w1.alloc (.cells #[.bool sq, .slice mq kq cq] 30)).alloc (.cells #[.bool sr, .slice mr kr cr] 30) = w2 at *
  generalize w1.heap.size = gq at *
  have hc0 := P2.out.cell0
  have hc1 := P2.out.cell1
  have hf0 := P2.out.free 0
  have hf1 := P2.out.free 1
  have r1 := PR.out.cell1
  have hcr := HLR.out.2.2.1
  have hkr := HLR.out.2.2.2
  unfold maxLen at hcr
  by_cases hz : x % y = 0
  · have HZ := hide hz
    have hk0 := HLR.out.1 hz
    subst hk0
    have q0 := PQ.out.cell0
    have q1 := PQ.out.cell1
    clear hz
    go_wp2
    refine ret_rover rfl (w.heap.size + 1 + 1) _ _ rfl (P2.out.put _ _) rfl ?_
    unfold ROverP
    exact ⟨_, _, _, rfl, IQ.out.keep (P2.out.keeps (by simp) (by simp) _ _), .inr ⟨HZ.out, rfl, rfl⟩, below_put HB.out (by omega) _ _⟩
  · have HZ := hide hz
    have hkp := HLR.out.2.1 hz
    clear hz
    go_wp2
    refine ret_rover rfl (w.heap.size + 1 + 1) _ _ rfl (P2.out.put _ _) rfl ?_
    unfold ROverP
    exact ⟨_, _, _, rfl, rint_zero _, .inl ⟨HZ.out, rfl, rfl⟩, below_put HB.out (by omega) _ _⟩
end Go.Proofs.Ytbaicocncalfaaa
