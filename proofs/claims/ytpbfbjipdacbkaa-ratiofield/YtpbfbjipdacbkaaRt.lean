/- Fractions in memory: a struct of two numbers; a block of four cells. -/
import Derived.Test.YtpbfbjipdacbkaaIGcd
import Derived.Test.YtpbfbjipdacbkaaRMath
namespace Go.Proofs.Ytpbfbjipdacbkaa
open Go.RowKit

theorem Try.infoRat : (Try.prog.info? 27).map (·.size) = some 4 := by kernel_rfl

/-- a block of four cells -/
def Box4 (W : World) (B : Nat) (x y u v : Value) : Prop := W.heap[B]? = some (.cells #[x, y, u, v] 27 (0, 0))
theorem Box4.cell0 {W : World} {B : Nat} {x y u v : Value} (h : Box4 W B x y u v) : W.cell? ⟨B, 0, none⟩ = some x := by simp [World.cell?, show W.heap[B]? = _ from h]
theorem Box4.cell1 {W : World} {B : Nat} {x y u v : Value} (h : Box4 W B x y u v) : W.cell? ⟨B, 1, none⟩ = some y := by simp [World.cell?, show W.heap[B]? = _ from h]
theorem Box4.cell2 {W : World} {B : Nat} {x y u v : Value} (h : Box4 W B x y u v) : W.cell? ⟨B, 2, none⟩ = some u := by simp [World.cell?, show W.heap[B]? = _ from h]
theorem Box4.cell3 {W : World} {B : Nat} {x y u v : Value} (h : Box4 W B x y u v) : W.cell? ⟨B, 3, none⟩ = some v := by simp [World.cell?, show W.heap[B]? = _ from h]
theorem Box4.free {W : World} {B : Nat} {x y u v : Value} (h : Box4 W B x y u v) (o : Nat) : W.frozen? ⟨B, o, none⟩ = false := by simp [World.frozen?, show W.heap[B]? = _ from h]
theorem Box4.lt {W : World} {B : Nat} {x y u v : Value} (h : Box4 W B x y u v) : B < W.heap.size := (Array.getElem?_eq_some_iff.1 h).1
theorem Box4.step {W W' : World} {B : Nat} {x y u v : Value} (h : Box4 W B x y u v) (hb : Below W.heap.size W W') : Box4 W' B x y u v := (hb.block B h.lt).trans h
theorem Box4.drew {W : World} {B : Nat} {x y u v : Value} (h : Box4 W B x y u v) : Box4 W.drew B x y u v := h
theorem Box4.new (W : World) (x y u v : Value) : Box4 (W.alloc (.cells #[x, y, u, v] 27)) W.heap.size x y u v := heap_alloc_new _ _
theorem Box4.set_ne {W : World} {B C o : Nat} {x y u v : Value} (h : Box4 W B x y u v) (hne : C ≠ B) (c : Value) : Box4 (W.setCell ⟨C, o, none⟩ c) B x y u v := by
  show (W.heap.modify C _)[B]? = _
  rw [Array.getElem?_modify, if_neg hne]; exact h
theorem Box4.set {W : World} {B : Nat} {x y u v : Value} (h : Box4 W B x y u v) (o : Nat) (c : Value) : (W.setCell ⟨B, o, none⟩ c).heap[B]? = some (.cells (#[x, y, u, v].setIfInBounds o c) 27 (0, 0)) := by
  obtain ⟨hlt, hk⟩ := Array.getElem?_eq_some_iff.1 h
  show (W.heap.modify B _)[B]? = _
  rw [Array.getElem?_eq_getElem (by rw [Array.size_modify]; exact hlt), Array.getElem_modify_self, hk]
  rfl
theorem Box4.put {W : World} {B : Nat} {x y u v : Value} (h : Box4 W B x y u v) (x' y' u' v' : Value) : Box4 ((((W.setCell ⟨B, 0, none⟩ x').setCell ⟨B, 1, none⟩ y').setCell ⟨B, 2, none⟩ u').setCell ⟨B, 3, none⟩ v') B x' y' u' v' := by
  have h0 : Box4 (W.setCell ⟨B, 0, none⟩ x') B x' y u v := h.set 0 x'
  have h1 : Box4 ((W.setCell ⟨B, 0, none⟩ x').setCell ⟨B, 1, none⟩ y') B x' y' u v := h0.set 1 y'
  have h2 : Box4 (((W.setCell ⟨B, 0, none⟩ x').setCell ⟨B, 1, none⟩ y').setCell ⟨B, 2, none⟩ u') B x' y' u' v := h1.set 2 u'
  exact h2.set 3 v'
theorem Box4.keeps {W : World} {B : Nat} {x y u v : Value} (h : Box4 W B x y u v) (hx : ∀ z, x ≠ .int .u32 z) (hy : ∀ z, y ≠ .int .u32 z) (hu : ∀ z, u ≠ .int .u32 z) (hv : ∀ z, v ≠ .int .u32 z) (x' y' u' v' : Value) : Spares W ((((W.setCell ⟨B, 0, none⟩ x').setCell ⟨B, 1, none⟩ y').setCell ⟨B, 2, none⟩ u').setCell ⟨B, 3, none⟩ v') := by
  have h0 : Box4 (W.setCell ⟨B, 0, none⟩ x') B x' y u v := h.set 0 x'
  have h1 : Box4 ((W.setCell ⟨B, 0, none⟩ x').setCell ⟨B, 1, none⟩ y') B x' y' u v := h0.set 1 y'
  have h2 : Box4 (((W.setCell ⟨B, 0, none⟩ x').setCell ⟨B, 1, none⟩ y').setCell ⟨B, 2, none⟩ u') B x' y' u' v := h1.set 2 u'
  exact (((Spares.set h.cell0 hx x').trans (Spares.set h0.cell1 hy y')).trans (Spares.set h1.cell2 hu u')).trans (Spares.set h2.cell3 hv v')
theorem Box4.other {W : World} {B C : Nat} {x y u v : Value} (h : Box4 W B x y u v) (hne : C ≠ B) (x' y' : Value) : Box4 ((W.setCell ⟨C, 0, none⟩ x').setCell ⟨C, 1, none⟩ y') B x y u v := (h.set_ne hne _).set_ne hne _
theorem Box4.other4 {W : World} {B C : Nat} {x y u v : Value} (h : Box4 W B x y u v) (hne : C ≠ B) (x' y' u' v' : Value) : Box4 ((((W.setCell ⟨C, 0, none⟩ x').setCell ⟨C, 1, none⟩ y').setCell ⟨C, 2, none⟩ u').setCell ⟨C, 3, none⟩ v') B x y u v := (((h.set_ne hne _).set_ne hne _).set_ne hne _).set_ne hne _
theorem Box.other4 {W : World} {B C : Nat} {x y : Value} (h : Box W B x y) (hne : C ≠ B) (x' y' u' v' : Value) : Box ((((W.setCell ⟨C, 0, none⟩ x').setCell ⟨C, 1, none⟩ y').setCell ⟨C, 2, none⟩ u').setCell ⟨C, 3, none⟩ v') B x y := (((h.set_ne hne _).set_ne hne _).set_ne hne _).set_ne hne _
theorem below_put4 {n : Nat} {w W : World} (h : Below n w W) {C : Nat} (hC : n ≤ C) (x' y' u' v' : Value) : Below n w ((((W.setCell ⟨C, 0, none⟩ x').setCell ⟨C, 1, none⟩ y').setCell ⟨C, 2, none⟩ u').setCell ⟨C, 3, none⟩ v') :=
  (((h.setCell (p := ⟨C, 0, none⟩) hC _).setCell (p := ⟨C, 1, none⟩) hC _).setCell (p := ⟨C, 2, none⟩) hC _).setCell (p := ⟨C, 3, none⟩) hC _

theorem int_zero0 (w : World) : IntAt w (.agg #[.bool false, .slice none 0 0]) 0 := ⟨false, 0, none, 0, by rw [lim_zero]; rfl, by rw [lim_zero]; exact Nums.nil_mk _ _ _ (Nat.zero_le _), rfl, fun _ => rfl⟩
/-- what stands for the denominator -/
def dn (q : Rat) : Int := if q.den = 1 then 0 else (q.den : Int)
/-- the struct of a fraction in lowest terms -/
def RatAt (w : World) (v : Value) (q : Rat) : Prop :=
  ∃ s m n c s' m' n' c', v = .agg #[.bool s, .slice m n c, .bool s', .slice m' n' c'] ∧ IntAt w (.agg #[.bool s, .slice m n c]) q.num ∧ IntAt w (.agg #[.bool s', .slice m' n' c']) (dn q)
theorem RatAt.below {w w' : World} {v : Value} {q : Rat} (h : RatAt w v q) (hb : Below w.heap.size w w') : RatAt w' v q := by
  obtain ⟨s, m, n, c, s', m', n', c', rfl, h1, h2⟩ := h
  exact ⟨s, m, n, c, s', m', n', c', rfl, h1.below hb, h2.below hb⟩
theorem RatAt.keep {w w' : World} {v : Value} {q : Rat} (h : RatAt w v q) (k : Spares w w') : RatAt w' v q := by
  obtain ⟨s, m, n, c, s', m', n', c', rfl, h1, h2⟩ := h
  exact ⟨s, m, n, c, s', m', n', c', rfl, h1.keep k, h2.keep k⟩
theorem RatAt.drew {w : World} {v : Value} {q : Rat} (h : RatAt w v q) : RatAt w.drew v q := h
theorem RatAt.cells {w : World} {v : Value} {q : Rat} (h : RatAt w v q) : ∃ s m n c s' m' n' c', v = .agg #[.bool s, .slice m n c, .bool s', .slice m' n' c'] ∧ RatAt w (.agg #[.bool s, .slice m n c, .bool s', .slice m' n' c']) q := by
  have h' := h
  obtain ⟨s, m, n, c, s', m', n', c', rfl, _, _⟩ := h'
  exact ⟨s, m, n, c, s', m', n', c', rfl, h⟩
theorem RatAt.num {w : World} {s s' : Bool} {m m' : Option Addr} {n c n' c' : Nat} {q : Rat} (h : RatAt w (.agg #[.bool s, .slice m n c, .bool s', .slice m' n' c']) q) : IntAt w (.agg #[.bool s, .slice m n c]) q.num := by
  obtain ⟨_, _, _, _, _, _, _, _, e, h1, h2⟩ := h
  simp only [Value.agg.injEq, Array.mk.injEq, List.cons.injEq, Value.bool.injEq, Value.slice.injEq, and_true] at e
  obtain ⟨rfl, ⟨rfl, rfl, rfl⟩, rfl, rfl, rfl, rfl⟩ := e
  exact h1
theorem RatAt.dn {w : World} {s s' : Bool} {m m' : Option Addr} {n c n' c' : Nat} {q : Rat} (h : RatAt w (.agg #[.bool s, .slice m n c, .bool s', .slice m' n' c']) q) : IntAt w (.agg #[.bool s', .slice m' n' c']) (dn q) := by
  obtain ⟨_, _, _, _, _, _, _, _, e, h1, h2⟩ := h
  simp only [Value.agg.injEq, Array.mk.injEq, List.cons.injEq, Value.bool.injEq, Value.slice.injEq, and_true] at e
  obtain ⟨rfl, ⟨rfl, rfl, rfl⟩, rfl, rfl, rfl, rfl⟩ := e
  exact h2

theorem ret_rat {fn : Func} {R : Ending → World → Prop} {a : Act} {w : World} {p : Tmp} (h : fn.results = #[.cell p 27]) (g : Nat) (x y u v : Value)
    (hp : a.tmps.getD p undef = .pointer (some ⟨g, 0, none⟩)) (hg : Box4 w g x y u v) (hd : a.defers = []) (hR : R (.returned (.agg #[x, y, u, v])) w) : bodyPost Try.prog fn R .ret a w := by
  refine bodyPost_ret ?_ hd hR
  have hp' : a.tmps[p]?.getD undef = .pointer (some ⟨g, 0, none⟩) := by simpa using hp
  simp [results, h, hp', asAddr, run_loadVar_row w g 27 27 #[x, y, u, v] (0, 0) _ hg Try.underlying27 rfl Try.infoRat]

/-- a fraction and a word are handed back -/
theorem ret_rate {fn : Func} {R : Ending → World → Prop} {a : Act} {w : World} {p k : Tmp} (h : fn.results = #[.cell p 27, .tmp k]) (g : Nat) (x y u v : Value)
    (hp : a.tmps.getD p undef = .pointer (some ⟨g, 0, none⟩)) (hg : Box4 w g x y u v) (hd : a.defers = []) (hR : R (.returned (.tuple #[.agg #[x, y, u, v], a.tmps.getD k undef])) w) : bodyPost Try.prog fn R .ret a w := by
  refine bodyPost_ret ?_ hd hR
  have hp' : a.tmps[p]?.getD undef = .pointer (some ⟨g, 0, none⟩) := by simpa using hp
  simp [results, h, hp', asAddr, run_loadVar_row w g 27 27 #[x, y, u, v] (0, 0) _ hg Try.underlying27 rfl Try.infoRat]

theorem dn_int (z : Int) : dn (z : Rat) = 0 := by simp [dn]
theorem sgn_zero (z : Int) : (sgnI z == 0) = decide (z = 0) := by unfold sgnI; split; simp; omega; split <;> simp <;> omega

set_option maxRecDepth 100000 in
set_option maxHeartbeats 400000 in
theorem whole_any (v : Value) (z : Int) (w : World) (h : IntAt w v z) :
    Calls Try.prog 30 #[v] w fun e w' => ∃ v', e = .returned v' ∧ RatAt w' v' (z : Rat) ∧ Below w.heap.size w w' := by
  obtain ⟨s, m, n, c, rfl, h'⟩ := h.cells
  have HI := hide h'
  clear h h'
  go_enter Try.func30, Try.ntmps30
  go_wp2
  have hb := below_alloc (w.alloc (.cells #[.bool s, .slice m n c] 25)) (.cells #[.bool s, .slice m n c, .bool false, .slice none 0 0] 27)
  have hX := Box4.new (w.alloc (.cells #[.bool s, .slice m n c] 25)) (.bool s) (.slice m n c) (.bool false) (.slice none 0 0)
  rw [World.size_alloc] at hX
  refine ret_rat rfl (w.heap.size + 1) _ _ _ _ rfl hX rfl ?_
  exact ⟨_, rfl, ⟨s, m, n, c, false, none, 0, 0, rfl, (HI.out.below (below_alloc _ _)).below hb, by rw [dn_int]; exact int_zero0 _⟩, (below_alloc _ _).trans (hb.mono (by simp))⟩
set_option maxRecDepth 100000 in
set_option maxHeartbeats 400000 in
theorem num_any (v : Value) (q : Rat) (w : World) (h : RatAt w v q) :
    Calls Try.prog 71 #[v] w fun e w' => ∃ v', e = .returned v' ∧ IntAt w' v' q.num ∧ Below w.heap.size w w' := by
  obtain ⟨s, m, n, c, s', m', n', c', rfl, h'⟩ := h.cells
  have HI := hide h'.num
  clear h h'
  go_enter Try.func71, Try.ntmps71
  go_wp2
  have hb := below_alloc (w.alloc (.cells #[.bool s, .slice m n c, .bool s', .slice m' n' c'] 27)) (.cells #[.bool s, .slice m n c] 25)
  have hX := Box.new (w.alloc (.cells #[.bool s, .slice m n c, .bool s', .slice m' n' c'] 27)) (.bool s) (.slice m n c)
  rw [World.size_alloc] at hX
  refine ret_int rfl (w.heap.size + 1) _ _ _ _ rfl hX rfl ?_
  exact ⟨_, rfl, (HI.out.below (below_alloc _ _)).below hb, (below_alloc _ _).trans (hb.mono (by simp))⟩
set_option maxRecDepth 100000 in
set_option maxHeartbeats 400000 in
theorem rsgn_any (v : Value) (q : Rat) (w : World) (h : RatAt w v q) :
    Calls Try.prog 19 #[v] w fun e w' => e = .returned (.int .i64 (sgnI q.num)) ∧ Below w.heap.size w w' := by
  obtain ⟨s, m, n, c, s', m', n', c', rfl, h'⟩ := h.cells
  have HI := hide h'.num
  clear h h'
  go_enter Try.func19, Try.ntmps19
  go_wp2_with fail
  refine (isign_any _ q.num _ (HI.out.below (below_alloc _ _))).mono ?_
  rintro e w1 ⟨rfl, hb⟩
  go_wp2
  go_ret
  exact ⟨rfl, (below_alloc _ _).trans (hb.mono (by simp))⟩
theorem dn_zero (q : Rat) : decide (dn q = 0) = decide (q.den = 1) := by
  have := q.den_nz
  unfold dn
  by_cases h : q.den = 1
  · simp [h]
  · simp [h]; omega
set_option maxRecDepth 100000 in
set_option maxHeartbeats 400000 in
theorem iswhole_any (v : Value) (q : Rat) (w : World) (h : RatAt w v q) :
    Calls Try.prog 18 #[v] w fun e w' => e = .returned (.bool (decide (q.den = 1))) ∧ Below w.heap.size w w' := by
  obtain ⟨s, m, n, c, s', m', n', c', rfl, h'⟩ := h.cells
  have HI := hide h'.dn
  clear h h'
  go_enter Try.func18, Try.ntmps18
  go_wp2_with fail
  refine (isign_any _ (dn q) _ (HI.out.below (below_alloc _ _))).mono ?_
  rintro e w1 ⟨rfl, hb⟩
  go_wp2
  go_ret
  refine ⟨?_, (below_alloc _ _).trans (hb.mono (by simp))⟩
  rw [← dn_zero, ← sgn_zero]
  rfl
set_option maxRecDepth 100000 in
set_option maxHeartbeats 1000000 in
theorem den_any (v : Value) (q : Rat) (w : World) (h : RatAt w v q) :
    Calls Try.prog 16 #[v] w fun e w' => ∃ v', e = .returned v' ∧ IntAt w' v' (q.den : Int) ∧ Below w.heap.size w w' := by
  obtain ⟨s, m, n, c, s', m', n', c', rfl, h'⟩ := h.cells
  have HR := hide h'
  clear h h'
  have HE : Hid (Box4 ((w.alloc (.cells #[.bool s, .slice m n c, .bool s', .slice m' n' c'] 27)).alloc (.cells #[.bool false, .slice none 0 0] 25)) w.heap.size (.bool s) (.slice m n c) (.bool s') (.slice m' n' c') ∧
      Box ((w.alloc (.cells #[.bool s, .slice m n c, .bool s', .slice m' n' c'] 27)).alloc (.cells #[.bool false, .slice none 0 0] 25)) (w.heap.size + 1) (.bool false) (.slice none 0 0) ∧
      Below w.heap.size w ((w.alloc (.cells #[.bool s, .slice m n c, .bool s', .slice m' n' c'] 27)).alloc (.cells #[.bool false, .slice none 0 0] 25))) :=
    hide ⟨(Box4.new _ _ _ _ _).step (below_alloc _ _), by have := Box.new (w.alloc (.cells #[.bool s, .slice m n c, .bool s', .slice m' n' c'] 27)) (.bool false) (.slice none 0 0); rwa [World.size_alloc] at this, (below_alloc _ _).trans ((below_alloc _ _).mono (by simp))⟩
  replace HR := hide (HR.out.below HE.out.2.2)
  go_enter Try.func16, Try.ntmps16
  go_wp2_with fail
  refine (iswhole_any _ q _ HR.out).mono ?_
  rintro e w1 ⟨rfl, hb⟩
  have P0 := hide (HE.out.1.step hb)
  have P1 := hide (HE.out.2.1.step hb)
  have HB := hide (HE.out.2.2.trans (hb.mono HE.out.2.2.size))
  replace HR := hide (HR.out.below hb)
  clear hb HE
  by_cases hd : q.den = 1
  · have hdd : decide (q.den = 1) = true := by simpa using hd
    rw [hdd]
    clear hdd
    have HD := hide hd
    clear hd
    go_wp2_with fail
    refine (iof_any 1 _ (by decide) (by decide)).mono ?_
    rintro e w2 ⟨v, rfl, ⟨b', n', a', c', rfl, hn', he, h0⟩, hb⟩
    replace P1 := hide (P1.out.step hb)
    replace HB := hide (HB.out.trans (hb.mono HB.out.size))
    have hc0 := P1.out.cell0
    have hc1 := P1.out.cell1
    have hf0 := P1.out.free 0
    have hf1 := P1.out.free 1
    clear hb
    go_wp2
    refine ret_int rfl (w.heap.size + 1) _ _ _ _ rfl ((P1.out.set0 _).set1 _) rfl ?_
    exact handed P1.out (by simp) (by simp) (by omega) HB.out hn' (by rw [← he, HD.out]; rfl) h0
  · have hdd : decide (q.den = 1) = false := by simpa using hd
    rw [hdd]
    clear hdd
    have HV : Hid (IntAt w1 (.agg #[.bool s', .slice m' n' c']) (q.den : Int)) := hide (by have := HR.out.dn; rwa [dn, if_neg hd] at this)
    have q2 := P0.out.cell2
    have q3 := P0.out.cell3
    have hc0 := P1.out.cell0
    have hc1 := P1.out.cell1
    have hf0 := P1.out.free 0
    have hf1 := P1.out.free 1
    clear hd
    go_wp2
    refine ret_int rfl (w.heap.size + 1) _ _ _ _ rfl (P1.out.put _ _) rfl ?_
    exact ⟨_, rfl, HV.out.keep (P1.out.keeps (by simp) (by simp) _ _), below_put HB.out (by omega) _ _⟩

set_option maxRecDepth 100000 in
set_option maxHeartbeats 1000000 in
theorem quotient_any (v1 v2 : Value) (x y : Int) (w : World) (h1 : IntAt w v1 x) (h2 : IntAt w v2 y) (l1 : (lim x.natAbs).length ≤ 1000000000) (l2 : (lim y.natAbs).length ≤ 1000000000) (hy : y ≠ 0) :
    Calls Try.prog 62 #[v1, v2] w fun e w' => ∃ v', e = .returned v' ∧ IntAt w' v' (x / y) ∧ Below w.heap.size w w' := by
  have I1 := hide h1
  have I2 := hide h2
  obtain ⟨b1, m1, n1, c1, rfl, _⟩ := h1.cells
  obtain ⟨b2, m2, n2, c2, rfl, _⟩ := h2.cells
  clear h1 h2
  have HE := hide (boxes3 w (.bool b1) (.slice m1 n1 c1) (.bool b2) (.slice m2 n2 c2) (.bool false) (.slice none 0 0))
  replace I1 := hide (I1.out.below HE.out.2.2.2)
  replace I2 := hide (I2.out.below HE.out.2.2.2)
  go_enter Try.func62, Try.ntmps62
  go_wp2_with fail
  refine (idivmod_any _ _ x y _ I1.out I2.out l1 l2 hy).mono ?_
  rintro e w1 ⟨q, r, rfl, hq, hr, hb⟩
  obtain ⟨sq, mq, nq, cq, rfl, hq⟩ := hq.cells
  obtain ⟨sr, mr, nr, cr, rfl, hr⟩ := hr.cells
  have P := hide (HE.out.2.2.1.step hb)
  have HB := hide (HE.out.2.2.2.trans (hb.mono HE.out.2.2.2.size))
  have HQ := hide hq
  clear hq hr hb HE I1 I2
  have al := (boxes2 w1 (.bool sq) (.slice mq nq cq) (.bool sr) (.slice mr nr cr)).2.2
  replace P := hide (P.out.step al)
  replace HB := hide (HB.out.trans (al.mono HB.out.size))
  replace HQ := hide (HQ.out.below al)
  clear al
  have hc0 := P.out.cell0
  have hc1 := P.out.cell1
  have hf0 := P.out.free 0
  have hf1 := P.out.free 1
  go_wp2
  refine ret_int rfl (w.heap.size + 1 + 1) _ _ _ _ rfl (P.out.put _ _) rfl ?_
  exact ⟨_, rfl, HQ.out.keep (P.out.keeps (by simp) (by simp) _ _), below_put HB.out (by omega) _ _⟩
end Go.Proofs.Ytpbfbjipdacbkaa
