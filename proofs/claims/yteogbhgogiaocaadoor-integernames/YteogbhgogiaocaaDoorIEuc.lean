/- integer.Int's euclid. -/
import Derived.Test.YteogbhgogiaocaaDoorIOver
import Derived.Test.YteogbhgogiaocaaDoorCalmL
import Derived.RegionTactic
namespace Go.Proofs.YteogbhgogiaocaaDoor
open Go.RowKit

/-- a step of the greatest divisor, and what each remainder is a multiple of -/
structure EucAt (x y : Int) (g r : Nat) (u v : Int) : Prop where
  gcd : Nat.gcd g r = Int.gcd x y
  du : y ∣ u * x - g
  dv : y ∣ v * x - r
  pos : 0 < g
  gl : g ≤ y.natAbs
  rl : r ≤ y.natAbs
  bal : ∃ (a b : Nat) (s : Int), (s = 1 ∨ s = -1) ∧ u = s * a ∧ v = -s * b ∧ b * g + a * r = y.natAbs ∧ a ≤ y.natAbs
theorem emod_gcd (x y : Int) : Nat.gcd y.natAbs (x % y).natAbs = Int.gcd x y := by
  show Int.gcd y (x % y) = Int.gcd x y
  have e := Int.emod_add_mul_ediv x y
  apply Nat.dvd_antisymm
  · have h1 : (Int.gcd y (x % y) : Int) ∣ y := Int.gcd_dvd_left ..
    have h2 : (Int.gcd y (x % y) : Int) ∣ x % y := Int.gcd_dvd_right ..
    have h3 : (Int.gcd y (x % y) : Int) ∣ x := by have h4 : (Int.gcd y (x % y) : Int) ∣ x % y + y * (x / y) := Int.dvd_add h2 (Int.dvd_mul_of_dvd_left h1); rwa [e] at h4
    exact Int.dvd_gcd h3 h1
  · have h1 : (Int.gcd x y : Int) ∣ x := Int.gcd_dvd_left ..
    have h2 : (Int.gcd x y : Int) ∣ y := Int.gcd_dvd_right ..
    have h3 : (Int.gcd x y : Int) ∣ x % y := by
      have : x % y = x - y * (x / y) := by omega
      rw [this]; exact Int.dvd_sub h1 (Int.dvd_mul_of_dvd_left h2)
    exact Int.dvd_gcd h2 h3
theorem EucAt.start {x y : Int} (hy : y ≠ 0) : EucAt x y y.natAbs (x % y).natAbs 0 1 := by
  refine ⟨emod_gcd x y, ?_, ?_, by omega, Nat.le_refl _, by have h1 := Int.emod_nonneg x hy; have h2 := Int.emod_lt x hy; omega, 0, 1, -1, .inr rfl, rfl, rfl, by omega, by omega⟩
  · rw [Int.zero_mul, Int.zero_sub]
    exact Int.dvd_neg.2 (Int.dvd_natAbs.2 (Int.dvd_refl y))
  · have h := Int.emod_nonneg x hy
    have e := Int.emod_add_mul_ediv x y
    rw [Int.one_mul, Int.natAbs_of_nonneg h]
    exact ⟨x / y, by omega⟩
theorem EucAt.step {x y : Int} {g r : Nat} {u v : Int} (h : EucAt x y g r u v) (hr : 0 < r) : EucAt x y r (g % r) v (u - ((g / r : Nat) : Int) * v) := by
  obtain ⟨a, b, s, hs, hu, hv, hb, ha⟩ := h.bal
  have em := Nat.mod_add_div g r
  refine ⟨by rw [← h.gcd, Nat.gcd_comm g r, Nat.gcd_rec r g, Nat.gcd_comm], h.dv, ?_, hr, h.rl, Nat.le_trans (Nat.le_of_lt (Nat.mod_lt g hr)) h.rl, b, a + g / r * b, -s, by omega, by rw [hv], ?_, ?_, ?_⟩
  · obtain ⟨c, hc⟩ := h.du
    obtain ⟨d, hd⟩ := h.dv
    refine ⟨c - ((g / r : Nat) : Int) * d, ?_⟩
    have e2 : ((g % r : Nat) : Int) = (g : Int) - (r : Int) * ((g / r : Nat) : Int) := by
      have : (g : Int) = ((g % r : Nat) : Int) + (r : Int) * ((g / r : Nat) : Int) := by rw [← Int.natCast_mul, ← Int.natCast_add, em]
      omega
    rw [e2]
    grind
  · rw [hu, hv]; push_cast; grind
  · have : (a + g / r * b) * r + b * (g % r) = b * (g % r + r * (g / r)) + a * r := by grind
    rw [this, em, hb]
  · have := h.pos
    have h2 : b ≤ b * g := Nat.le_mul_of_pos_right b h.pos
    omega
theorem EucAt.small {x y : Int} {g r : Nat} {u v : Int} (h : EucAt x y g r u v) : u.natAbs ≤ y.natAbs ∧ v.natAbs ≤ y.natAbs ∧ g ≤ y.natAbs + g := by
  obtain ⟨a, b, s, hs, hu, hv, hb, ha⟩ := h.bal
  have h2 : b ≤ b * g := Nat.le_mul_of_pos_right b h.pos
  refine ⟨?_, ?_, by omega⟩
  · rw [hu]; rcases hs with rfl | rfl <;> simp <;> omega
  · rw [hv]; rcases hs with rfl | rfl <;> simp <;> omega
theorem EucAt.last {x y : Int} {g : Nat} {u v : Int} (h : EucAt x y g 0 u v) : g = Int.gcd x y := by have := h.gcd; rwa [Nat.gcd_zero_right] at this
/-- two numbers are handed back -/
theorem ret_ii {fn : Func} {R : Ending → World → Prop} {a : Act} {w : World} {p q : Tmp} (h : fn.results = #[.cell p 25, .cell q 25]) (g g' : Nat) (x y x' y' : Value)
    (hp : a.tmps.getD p undef = .pointer (some ⟨g, 0, none⟩)) (hq : a.tmps.getD q undef = .pointer (some ⟨g', 0, none⟩)) (hg : Box w g x y) (hg' : Box w g' x' y') (hd : a.defers = []) (hR : R (.returned (.tuple #[.agg #[x, y], .agg #[x', y']])) w) : bodyPost Tryd.prog fn R .ret a w := by
  refine bodyPost_ret ?_ hd hR
  have hp' : a.tmps[p]?.getD undef = .pointer (some ⟨g, 0, none⟩) := by simpa using hp
  have hq' : a.tmps[q]?.getD undef = .pointer (some ⟨g', 0, none⟩) := by simpa using hq
  simp [results, h, hp', hq', asAddr, run_loadVar_row w g 25 25 #[x, y] (0, 0) _ hg Tryd.underlying25 rfl Tryd.infoInt, run_loadVar_row w g' 25 25 #[x', y'] (0, 0) _ hg' Tryd.underlying25 rfl Tryd.infoInt]
/-- the number that a variable holds, without its sign -/
def numAt (w : World) (g : Nat) : Nat := numOf w ((w.cell? ⟨g, 1, none⟩).getD undef)
theorem numAt_eq {w : World} {g : Nat} {s : Bool} {m : Option Addr} {n c k : Nat} (h : Box w g (.bool s) (.slice m n c)) (i : IntAt w (.agg #[.bool s, .slice m n c]) (k : Int)) : numAt w g = k := by
  unfold numAt
  rw [h.cell1]
  obtain ⟨b, j, a, c', he, hn, hz, h0⟩ := i
  simp only [Value.agg.injEq, Array.mk.injEq, List.cons.injEq, Value.bool.injEq, Value.slice.injEq, and_true] at he
  obtain ⟨rfl, rfl, rfl, rfl⟩ := he
  rw [Option.getD_some, hn.numOf, val_lim]
  have := congrArg Int.natAbs hz
  rw [sg_abs] at this
  simpa using this.symm
theorem len_le {k : Nat} {n : Nat} {z : Int} (h : (lim z.natAbs).length ≤ k) (hn : n ≤ z.natAbs) : (lim n).length ≤ k := Nat.le_trans (lim_len_mono hn) h

set_option maxRecDepth 100000 in
set_option maxHeartbeats 8000000 in
theorem ieuclid_any (v1 v2 : Value) (x y : Int) (w : World) (h1 : IntAt w v1 x) (h2 : IntAt w v2 y) (l1 : (lim x.natAbs).length ≤ 100000000) (l2 : (lim y.natAbs).length ≤ 100000000) (hy : y ≠ 0) :
    Calls Tryd.prog 25 #[v1, v2] w fun e w' => ∃ (a b : Value) (u : Int), e = .returned (.tuple #[a, b]) ∧ IntAt w' a (Int.gcd x y : Int) ∧ IntAt w' b u ∧ y ∣ u * x - (Int.gcd x y : Int) ∧ u.natAbs ≤ y.natAbs ∧ Below w.heap.size w w' := by
  obtain ⟨sx, mx, lx, kx, rfl, i1⟩ := h1.cells
  obtain ⟨sy, my, ly, ky, rfl, i2⟩ := h2.cells
  have HE := hide (boxes4 w (.bool sx) (.slice mx lx kx) (.bool sy) (.slice my ly ky) (.bool false) (.slice none 0 0) (.bool false) (.slice none 0 0) _ rfl)
  have I1 := hide (i1.below HE.out.2.2.2.2)
  have I2 := hide (i2.below HE.out.2.2.2.2)
  have HB := hide HE.out.2.2.2.2
  have P0 := hide HE.out.1
  have P1 := hide HE.out.2.1
  have P2 := hide HE.out.2.2.1
  have P3 := hide HE.out.2.2.2.1
  have LX := hide l1
  have LY := hide l2
  have HY := hide hy
  obtain ⟨K, hK⟩ : ∃ K, K = (lim y.natAbs).length := ⟨_, rfl⟩
  have hKb : K ≤ 100000000 := by omega
  have SK : Hid (∀ z : Int, z.natAbs ≤ y.natAbs → SzI K z) := hide (fun z hz => by unfold SzI; have h := val_lt (ok_lim y.natAbs); rw [val_lim, ← hK] at h; exact Nat.lt_of_le_of_lt hz h)
  clear h1 h2 i1 i2 HE l1 l2 hy hK
  have y0 := P1.out.cell0
  have y1 := P1.out.cell1
  go_enter Tryd.func25, Tryd.ntmps25
  go_wp2
  go_step3
  go_wp2_with fail
  refine (iabs_any _ y _ I2.out).mono ?_
  rintro e w1 ⟨v, rfl, n, hb⟩
  obtain ⟨sg, mg, lg, kg, rfl, n⟩ := n.cells
  clear y0 y1
  replace HB := hide (HB.out.trans ((hb).mono HB.out.size))
  replace P0 := hide (P0.out.step (hb))
  replace P1 := hide (P1.out.step (hb))
  replace P2 := hide (P2.out.step (hb))
  replace P3 := hide (P3.out.step (hb))
  replace I1 := hide (I1.out.below (hb))
  replace I2 := hide (I2.out.below (hb))
  have IG := hide n
  clear n hb
  go_upto_region 2 with fail
  have LT1 : Hid (w.heap.size + 1 + 1 + 1 < w1.heap.size) := hide P3.out.lt
  replace HB := hide (HB.out.trans ((below_alloc w1 (.cells #[.bool sg, .slice mg lg kg] 25)).mono HB.out.size))
  replace P0 := hide (P0.out.step (below_alloc w1 (.cells #[.bool sg, .slice mg lg kg] 25)))
  replace P1 := hide (P1.out.step (below_alloc w1 (.cells #[.bool sg, .slice mg lg kg] 25)))
  replace P2 := hide (P2.out.step (below_alloc w1 (.cells #[.bool sg, .slice mg lg kg] 25)))
  replace P3 := hide (P3.out.step (below_alloc w1 (.cells #[.bool sg, .slice mg lg kg] 25)))
  replace I1 := hide (I1.out.below (below_alloc w1 (.cells #[.bool sg, .slice mg lg kg] 25)))
  replace I2 := hide (I2.out.below (below_alloc w1 (.cells #[.bool sg, .slice mg lg kg] 25)))
  replace IG := hide (IG.out.below (below_alloc w1 (.cells #[.bool sg, .slice mg lg kg] 25)))
  have PG := hide (Box.new w1 (.bool sg) (.slice mg lg kg))
  replace HB := hide (HB.out.trans ((below_alloc (w1.alloc (.cells #[.bool sg, .slice mg lg kg] 25)) (.cells #[.bool false, .slice none 0 0] 25)).mono HB.out.size))
  replace P0 := hide (P0.out.step (below_alloc (w1.alloc (.cells #[.bool sg, .slice mg lg kg] 25)) (.cells #[.bool false, .slice none 0 0] 25)))
  replace P1 := hide (P1.out.step (below_alloc (w1.alloc (.cells #[.bool sg, .slice mg lg kg] 25)) (.cells #[.bool false, .slice none 0 0] 25)))
  replace P2 := hide (P2.out.step (below_alloc (w1.alloc (.cells #[.bool sg, .slice mg lg kg] 25)) (.cells #[.bool false, .slice none 0 0] 25)))
  replace P3 := hide (P3.out.step (below_alloc (w1.alloc (.cells #[.bool sg, .slice mg lg kg] 25)) (.cells #[.bool false, .slice none 0 0] 25)))
  replace I1 := hide (I1.out.below (below_alloc (w1.alloc (.cells #[.bool sg, .slice mg lg kg] 25)) (.cells #[.bool false, .slice none 0 0] 25)))
  replace I2 := hide (I2.out.below (below_alloc (w1.alloc (.cells #[.bool sg, .slice mg lg kg] 25)) (.cells #[.bool false, .slice none 0 0] 25)))
  replace IG := hide (IG.out.below (below_alloc (w1.alloc (.cells #[.bool sg, .slice mg lg kg] 25)) (.cells #[.bool false, .slice none 0 0] 25)))
  replace PG := hide (PG.out.step (below_alloc (w1.alloc (.cells #[.bool sg, .slice mg lg kg] 25)) (.cells #[.bool false, .slice none 0 0] 25)))
  have PU := hide (Box.new (w1.alloc (.cells #[.bool sg, .slice mg lg kg] 25)) (.bool false) (.slice none 0 0))
  simp only [World.size_alloc] at PU
  generalize ((w1.alloc (.cells #[.bool sg, .slice mg lg kg] 25)).alloc (.cells #[.bool false, .slice none 0 0] 25)) = w2 at *
  generalize w1.heap.size = gg at *
  have IU := hide (int_zero w2)
  have x0 := P0.out.cell0
  have x1 := P0.out.cell1
  have y0 := P1.out.cell0
  have y1 := P1.out.cell1
  go_wp2_with fail
  refine (idivmod_any _ _ x y _ I1.out I2.out (Nat.le_trans LX.out (by decide)) (Nat.le_trans LY.out (by decide)) HY.out).mono ?_
  rintro e w3 ⟨vq, vr, rfl, nq, nr, hb⟩
  obtain ⟨sq, mq, lq, kq, rfl, nq⟩ := nq.cells
  obtain ⟨sr, mr, lr, kr, rfl, nr⟩ := nr.cells
  clear x0 x1 y0 y1
  replace HB := hide (HB.out.trans ((hb).mono HB.out.size))
  replace P0 := hide (P0.out.step (hb))
  replace P1 := hide (P1.out.step (hb))
  replace P2 := hide (P2.out.step (hb))
  replace P3 := hide (P3.out.step (hb))
  replace I1 := hide (I1.out.below (hb))
  replace I2 := hide (I2.out.below (hb))
  replace IG := hide (IG.out.below (hb))
  replace PG := hide (PG.out.step (hb))
  replace PU := hide (PU.out.step (hb))
  replace IU := hide (IU.out.below (hb))
  have IR := hide nr
  clear nq nr hb
  clear P0
  clear P1
  clear I1
  clear I2
  go_upto_region 3 with fail
  have LT3 : Hid (gg + 1 < w3.heap.size) := hide PU.out.lt
  replace HB := hide (HB.out.trans ((below_alloc w3 (.cells #[.bool sq, .slice mq lq kq] 25)).mono HB.out.size))
  replace P2 := hide (P2.out.step (below_alloc w3 (.cells #[.bool sq, .slice mq lq kq] 25)))
  replace P3 := hide (P3.out.step (below_alloc w3 (.cells #[.bool sq, .slice mq lq kq] 25)))
  replace IG := hide (IG.out.below (below_alloc w3 (.cells #[.bool sq, .slice mq lq kq] 25)))
  replace PG := hide (PG.out.step (below_alloc w3 (.cells #[.bool sq, .slice mq lq kq] 25)))
  replace PU := hide (PU.out.step (below_alloc w3 (.cells #[.bool sq, .slice mq lq kq] 25)))
  replace IU := hide (IU.out.below (below_alloc w3 (.cells #[.bool sq, .slice mq lq kq] 25)))
  replace IR := hide (IR.out.below (below_alloc w3 (.cells #[.bool sq, .slice mq lq kq] 25)))
  replace HB := hide (HB.out.trans ((below_alloc (w3.alloc (.cells #[.bool sq, .slice mq lq kq] 25)) (.cells #[.bool sr, .slice mr lr kr] 25)).mono HB.out.size))
  replace P2 := hide (P2.out.step (below_alloc (w3.alloc (.cells #[.bool sq, .slice mq lq kq] 25)) (.cells #[.bool sr, .slice mr lr kr] 25)))
  replace P3 := hide (P3.out.step (below_alloc (w3.alloc (.cells #[.bool sq, .slice mq lq kq] 25)) (.cells #[.bool sr, .slice mr lr kr] 25)))
  replace IG := hide (IG.out.below (below_alloc (w3.alloc (.cells #[.bool sq, .slice mq lq kq] 25)) (.cells #[.bool sr, .slice mr lr kr] 25)))
  replace PG := hide (PG.out.step (below_alloc (w3.alloc (.cells #[.bool sq, .slice mq lq kq] 25)) (.cells #[.bool sr, .slice mr lr kr] 25)))
  replace PU := hide (PU.out.step (below_alloc (w3.alloc (.cells #[.bool sq, .slice mq lq kq] 25)) (.cells #[.bool sr, .slice mr lr kr] 25)))
  replace IU := hide (IU.out.below (below_alloc (w3.alloc (.cells #[.bool sq, .slice mq lq kq] 25)) (.cells #[.bool sr, .slice mr lr kr] 25)))
  replace IR := hide (IR.out.below (below_alloc (w3.alloc (.cells #[.bool sq, .slice mq lq kq] 25)) (.cells #[.bool sr, .slice mr lr kr] 25)))
  have PR := hide (Box.new (w3.alloc (.cells #[.bool sq, .slice mq lq kq] 25)) (.bool sr) (.slice mr lr kr))
  simp only [World.size_alloc] at PR
  generalize ((w3.alloc (.cells #[.bool sq, .slice mq lq kq] 25)).alloc (.cells #[.bool sr, .slice mr lr kr] 25)) = w4 at *
  generalize w3.heap.size = gq at *
  go_wp2_with fail
  refine (iof_any 1 _ (by decide) (by decide)).mono ?_
  rintro e w5 ⟨v, rfl, n, hb⟩
  obtain ⟨sn, mn, ln, kn, rfl, n⟩ := n.cells
  replace HB := hide (HB.out.trans ((hb).mono HB.out.size))
  replace P2 := hide (P2.out.step (hb))
  replace P3 := hide (P3.out.step (hb))
  replace IG := hide (IG.out.below (hb))
  replace PG := hide (PG.out.step (hb))
  replace PU := hide (PU.out.step (hb))
  replace IU := hide (IU.out.below (hb))
  replace IR := hide (IR.out.below (hb))
  replace PR := hide (PR.out.step (hb))
  have IN := hide n
  clear n hb
  have LT5 : Hid (gq + 1 < w5.heap.size) := hide PR.out.lt
  skip
  go_wp2
  replace HB := hide (HB.out.trans ((below_alloc w5 (.cells #[.bool sn, .slice mn ln kn] 25)).mono HB.out.size))
  replace P2 := hide (P2.out.step (below_alloc w5 (.cells #[.bool sn, .slice mn ln kn] 25)))
  replace P3 := hide (P3.out.step (below_alloc w5 (.cells #[.bool sn, .slice mn ln kn] 25)))
  replace IG := hide (IG.out.below (below_alloc w5 (.cells #[.bool sn, .slice mn ln kn] 25)))
  replace PG := hide (PG.out.step (below_alloc w5 (.cells #[.bool sn, .slice mn ln kn] 25)))
  replace PU := hide (PU.out.step (below_alloc w5 (.cells #[.bool sn, .slice mn ln kn] 25)))
  replace IU := hide (IU.out.below (below_alloc w5 (.cells #[.bool sn, .slice mn ln kn] 25)))
  replace IR := hide (IR.out.below (below_alloc w5 (.cells #[.bool sn, .slice mn ln kn] 25)))
  replace PR := hide (PR.out.step (below_alloc w5 (.cells #[.bool sn, .slice mn ln kn] 25)))
  replace IN := hide (IN.out.below (below_alloc w5 (.cells #[.bool sn, .slice mn ln kn] 25)))
  have PN := hide (Box.new w5 (.bool sn) (.slice mn ln kn))
  generalize (w5.alloc (.cells #[.bool sn, .slice mn ln kn] 25)) = w6 at *
  generalize w5.heap.size = gn at *
  go_step3
  go_wp2
  go_loopw [12, 13, 14] (fun _ _ _ wr => ∃ (g r : Nat) (u v : Int) (sg : Bool) (mg : Option Addr) (lg kg : Nat) (su : Bool) (mu : Option Addr) (lu ku : Nat) (sr : Bool) (mr : Option Addr) (lr kr : Nat) (sn : Bool) (mn : Option Addr) (ln kn : Nat), EucAt x y g r u v ∧ Below w.heap.size w wr ∧ Box wr (w.heap.size + 1 + 1) (.bool false) (.slice none 0 0) ∧ Box wr (w.heap.size + 1 + 1 + 1) (.bool false) (.slice none 0 0) ∧ Box wr gg (.bool sg) (.slice mg lg kg) ∧ Box wr (gg + 1) (.bool su) (.slice mu lu ku) ∧ Box wr (gq + 1) (.bool sr) (.slice mr lr kr) ∧ Box wr gn (.bool sn) (.slice mn ln kn) ∧ IntAt wr (.agg #[.bool sg, .slice mg lg kg]) (g : Int) ∧ IntAt wr (.agg #[.bool su, .slice mu lu ku]) u ∧ IntAt wr (.agg #[.bool sr, .slice mr lr kr]) (r : Int) ∧ IntAt wr (.agg #[.bool sn, .slice mn ln kn]) v) (fun _ _ _ wr => numAt wr (gq + 1))
  case atStart => exact ⟨y.natAbs, (x % y).natAbs, 0, 1, sg, mg, lg, kg, false, none, 0, 0, sr, mr, lr, kr, sn, mn, ln, kn, EucAt.start HY.out, HB.out, P2.out, P3.out, PG.out, PU.out, PR.out, PN.out, IG.out, IU.out, by rw [Int.natAbs_of_nonneg (Int.emod_nonneg x HY.out)]; exact IR.out, IN.out⟩
  case round =>
    clear HB P2 P3 PG PU PR PN IG IU IR IN
    obtain ⟨g, r, u, v, sg, mg, lg, kg, su, mu, lu, ku, sr, mr, lr, kr, sn, mn, ln, kn, hat, h0, h1, h2, h3, h4, h5, h6, h7, h8, h9, h10⟩ := hrel
    have HAT := hide hat
    have HB := hide h0
    have P2 := hide h1
    have P3 := hide h2
    have PG := hide h3
    have PU := hide h4
    have PR := hide h5
    have PN := hide h6
    have IG := hide h7
    have IU := hide h8
    have IR := hide h9
    have IN := hide h10
    clear hat h0 h1 h2 h3 h4 h5 h6 h7 h8 h9 h10
    have PR0 := hide PR.out
    have IR0 := hide IR.out
    have g0 := PG.out.cell0
    have g1 := PG.out.cell1
    have r0 := PR.out.cell0
    have r1 := PR.out.cell1
    by_cases hr0 : r = 0
    · subst hr0
      have HLA := hide HAT.out.last
      go_wp2_with fail
      refine (idivmod_zero _ _ (g : Int) _ IG.out IR.out).mono ?_
      rintro e t1 ⟨va, vb, rfl, na, nb, hb⟩
      obtain ⟨sa, ma, la, ka, rfl, na⟩ := na.cells
      obtain ⟨sb, mb, lb, kb, rfl, nb⟩ := nb.cells
      clear g0 g1 r0 r1 na nb
      replace HB := hide (HB.out.trans ((hb).mono HB.out.size))
      replace P2 := hide (P2.out.step (hb))
      replace P3 := hide (P3.out.step (hb))
      replace PG := hide (PG.out.step (hb))
      replace PU := hide (PU.out.step (hb))
      replace PR := hide (PR.out.step (hb))
      replace PN := hide (PN.out.step (hb))
      replace IG := hide (IG.out.below (hb))
      replace IU := hide (IU.out.below (hb))
      replace IR := hide (IR.out.below (hb))
      replace IN := hide (IN.out.below (hb))
      clear hb
      go_upto_region 9 with fail
      replace HB := hide (HB.out.trans ((below_alloc t1 (.cells #[.bool sa, .slice ma la ka] 25)).mono HB.out.size))
      replace P2 := hide (P2.out.step (below_alloc t1 (.cells #[.bool sa, .slice ma la ka] 25)))
      replace P3 := hide (P3.out.step (below_alloc t1 (.cells #[.bool sa, .slice ma la ka] 25)))
      replace PG := hide (PG.out.step (below_alloc t1 (.cells #[.bool sa, .slice ma la ka] 25)))
      replace PU := hide (PU.out.step (below_alloc t1 (.cells #[.bool sa, .slice ma la ka] 25)))
      replace PR := hide (PR.out.step (below_alloc t1 (.cells #[.bool sa, .slice ma la ka] 25)))
      replace PN := hide (PN.out.step (below_alloc t1 (.cells #[.bool sa, .slice ma la ka] 25)))
      replace IG := hide (IG.out.below (below_alloc t1 (.cells #[.bool sa, .slice ma la ka] 25)))
      replace IU := hide (IU.out.below (below_alloc t1 (.cells #[.bool sa, .slice ma la ka] 25)))
      replace IR := hide (IR.out.below (below_alloc t1 (.cells #[.bool sa, .slice ma la ka] 25)))
      replace IN := hide (IN.out.below (below_alloc t1 (.cells #[.bool sa, .slice ma la ka] 25)))
      replace HB := hide (HB.out.trans ((below_alloc (t1.alloc (.cells #[.bool sa, .slice ma la ka] 25)) (.cells #[.bool sb, .slice mb lb kb] 25)).mono HB.out.size))
      replace P2 := hide (P2.out.step (below_alloc (t1.alloc (.cells #[.bool sa, .slice ma la ka] 25)) (.cells #[.bool sb, .slice mb lb kb] 25)))
      replace P3 := hide (P3.out.step (below_alloc (t1.alloc (.cells #[.bool sa, .slice ma la ka] 25)) (.cells #[.bool sb, .slice mb lb kb] 25)))
      replace PG := hide (PG.out.step (below_alloc (t1.alloc (.cells #[.bool sa, .slice ma la ka] 25)) (.cells #[.bool sb, .slice mb lb kb] 25)))
      replace PU := hide (PU.out.step (below_alloc (t1.alloc (.cells #[.bool sa, .slice ma la ka] 25)) (.cells #[.bool sb, .slice mb lb kb] 25)))
      replace PR := hide (PR.out.step (below_alloc (t1.alloc (.cells #[.bool sa, .slice ma la ka] 25)) (.cells #[.bool sb, .slice mb lb kb] 25)))
      replace PN := hide (PN.out.step (below_alloc (t1.alloc (.cells #[.bool sa, .slice ma la ka] 25)) (.cells #[.bool sb, .slice mb lb kb] 25)))
      replace IG := hide (IG.out.below (below_alloc (t1.alloc (.cells #[.bool sa, .slice ma la ka] 25)) (.cells #[.bool sb, .slice mb lb kb] 25)))
      replace IU := hide (IU.out.below (below_alloc (t1.alloc (.cells #[.bool sa, .slice ma la ka] 25)) (.cells #[.bool sb, .slice mb lb kb] 25)))
      replace IR := hide (IR.out.below (below_alloc (t1.alloc (.cells #[.bool sa, .slice ma la ka] 25)) (.cells #[.bool sb, .slice mb lb kb] 25)))
      replace IN := hide (IN.out.below (below_alloc (t1.alloc (.cells #[.bool sa, .slice ma la ka] 25)) (.cells #[.bool sb, .slice mb lb kb] 25)))
      generalize ((t1.alloc (.cells #[.bool sa, .slice ma la ka] 25)).alloc (.cells #[.bool sb, .slice mb lb kb] 25)) = t2 at *
      generalize t1.heap.size = ga at *
      have g0 := PG.out.cell0
      have g1 := PG.out.cell1
      have u0 := PU.out.cell0
      have u1 := PU.out.cell1
      have p0 := P2.out.cell0
      have p1 := P2.out.cell1
      have pf0 := P2.out.free 0
      have pf1 := P2.out.free 1
      have q0 := P3.out.cell0
      have q1 := P3.out.cell1
      have qf0 := P3.out.free 0
      have qf1 := P3.out.free 1
      have hl1 := LT1.out
      go_wp2_with fail
      go_region
      all_goals
        go_wp2
        try rw [Exit.noGoto_ret]
        refine ret_ii rfl (w.heap.size + 1 + 1) (w.heap.size + 1 + 1 + 1) _ _ _ _ rfl rfl ((P2.out.put (.bool sg) (.slice mg lg kg)).other (C := (w.heap.size + 1 + 1 + 1)) (by omega) (.bool su) (.slice mu lu ku)).drew ((P3.out.other (C := (w.heap.size + 1 + 1)) (by omega) (.bool sg) (.slice mg lg kg)).put (.bool su) (.slice mu lu ku)).drew rfl ?_
        have hk1 := P2.out.keeps (by simp) (by simp) (.bool sg) (.slice mg lg kg)
        have hk2 := (P3.out.other (C := (w.heap.size + 1 + 1)) (by omega) (.bool sg) (.slice mg lg kg)).keeps (by simp) (by simp) (.bool su) (.slice mu lu ku)
        exact ⟨_, _, u, rfl, by have h := ((IG.out.keep hk1).keep hk2).drew; rw [HLA.out] at h; exact h, ((IU.out.keep hk1).keep hk2).drew, by have h := HAT.out.du; rw [HLA.out] at h; exact h, HAT.out.small.1, (below_put (below_put HB.out (by omega) (.bool sg) (.slice mg lg kg)) (by omega) (.bool su) (.slice mu lu ku)).drew⟩
    · have HRP := hide (Nat.pos_of_ne_zero hr0)
      clear hr0
      have HSM := hide HAT.out.small
      go_wp2_with fail
      refine (idivmod_any _ _ (g : Int) (r : Int) _ IG.out IR.out (by rw [Int.natAbs_natCast]; exact Nat.le_trans (len_le LY.out HAT.out.gl) (by decide)) (by rw [Int.natAbs_natCast]; exact Nat.le_trans (len_le LY.out HAT.out.rl) (by decide)) (by have := HRP.out; omega)).mono ?_
      rintro e t1 ⟨va, vb, rfl, na, nb, hb⟩
      obtain ⟨sa, ma, la, ka, rfl, na⟩ := na.cells
      obtain ⟨sb, mb, lb, kb, rfl, nb⟩ := nb.cells
      rw [← Int.natCast_ediv] at na
      rw [← Int.natCast_emod] at nb
      clear g0 g1 r0 r1
      replace HB := hide (HB.out.trans ((hb).mono HB.out.size))
      replace P2 := hide (P2.out.step (hb))
      replace P3 := hide (P3.out.step (hb))
      replace PG := hide (PG.out.step (hb))
      replace PU := hide (PU.out.step (hb))
      replace PR := hide (PR.out.step (hb))
      replace PN := hide (PN.out.step (hb))
      replace IG := hide (IG.out.below (hb))
      replace IU := hide (IU.out.below (hb))
      replace IR := hide (IR.out.below (hb))
      replace IN := hide (IN.out.below (hb))
      have IA := hide na
      have IB := hide nb
      clear hb na nb
      go_upto_region 7 with fail
      have LT7 : Hid (gg + 1 < t1.heap.size ∧ gq + 1 < t1.heap.size ∧ gn < t1.heap.size) := hide ⟨PU.out.lt, PR.out.lt, PN.out.lt⟩
      replace HB := hide (HB.out.trans ((below_alloc t1 (.cells #[.bool sa, .slice ma la ka] 25)).mono HB.out.size))
      replace P2 := hide (P2.out.step (below_alloc t1 (.cells #[.bool sa, .slice ma la ka] 25)))
      replace P3 := hide (P3.out.step (below_alloc t1 (.cells #[.bool sa, .slice ma la ka] 25)))
      replace PG := hide (PG.out.step (below_alloc t1 (.cells #[.bool sa, .slice ma la ka] 25)))
      replace PU := hide (PU.out.step (below_alloc t1 (.cells #[.bool sa, .slice ma la ka] 25)))
      replace PR := hide (PR.out.step (below_alloc t1 (.cells #[.bool sa, .slice ma la ka] 25)))
      replace PN := hide (PN.out.step (below_alloc t1 (.cells #[.bool sa, .slice ma la ka] 25)))
      replace IG := hide (IG.out.below (below_alloc t1 (.cells #[.bool sa, .slice ma la ka] 25)))
      replace IU := hide (IU.out.below (below_alloc t1 (.cells #[.bool sa, .slice ma la ka] 25)))
      replace IR := hide (IR.out.below (below_alloc t1 (.cells #[.bool sa, .slice ma la ka] 25)))
      replace IN := hide (IN.out.below (below_alloc t1 (.cells #[.bool sa, .slice ma la ka] 25)))
      replace IA := hide (IA.out.below (below_alloc t1 (.cells #[.bool sa, .slice ma la ka] 25)))
      replace IB := hide (IB.out.below (below_alloc t1 (.cells #[.bool sa, .slice ma la ka] 25)))
      have PA := hide (Box.new t1 (.bool sa) (.slice ma la ka))
      replace HB := hide (HB.out.trans ((below_alloc (t1.alloc (.cells #[.bool sa, .slice ma la ka] 25)) (.cells #[.bool sb, .slice mb lb kb] 25)).mono HB.out.size))
      replace P2 := hide (P2.out.step (below_alloc (t1.alloc (.cells #[.bool sa, .slice ma la ka] 25)) (.cells #[.bool sb, .slice mb lb kb] 25)))
      replace P3 := hide (P3.out.step (below_alloc (t1.alloc (.cells #[.bool sa, .slice ma la ka] 25)) (.cells #[.bool sb, .slice mb lb kb] 25)))
      replace PG := hide (PG.out.step (below_alloc (t1.alloc (.cells #[.bool sa, .slice ma la ka] 25)) (.cells #[.bool sb, .slice mb lb kb] 25)))
      replace PU := hide (PU.out.step (below_alloc (t1.alloc (.cells #[.bool sa, .slice ma la ka] 25)) (.cells #[.bool sb, .slice mb lb kb] 25)))
      replace PR := hide (PR.out.step (below_alloc (t1.alloc (.cells #[.bool sa, .slice ma la ka] 25)) (.cells #[.bool sb, .slice mb lb kb] 25)))
      replace PN := hide (PN.out.step (below_alloc (t1.alloc (.cells #[.bool sa, .slice ma la ka] 25)) (.cells #[.bool sb, .slice mb lb kb] 25)))
      replace IG := hide (IG.out.below (below_alloc (t1.alloc (.cells #[.bool sa, .slice ma la ka] 25)) (.cells #[.bool sb, .slice mb lb kb] 25)))
      replace IU := hide (IU.out.below (below_alloc (t1.alloc (.cells #[.bool sa, .slice ma la ka] 25)) (.cells #[.bool sb, .slice mb lb kb] 25)))
      replace IR := hide (IR.out.below (below_alloc (t1.alloc (.cells #[.bool sa, .slice ma la ka] 25)) (.cells #[.bool sb, .slice mb lb kb] 25)))
      replace IN := hide (IN.out.below (below_alloc (t1.alloc (.cells #[.bool sa, .slice ma la ka] 25)) (.cells #[.bool sb, .slice mb lb kb] 25)))
      replace IA := hide (IA.out.below (below_alloc (t1.alloc (.cells #[.bool sa, .slice ma la ka] 25)) (.cells #[.bool sb, .slice mb lb kb] 25)))
      replace IB := hide (IB.out.below (below_alloc (t1.alloc (.cells #[.bool sa, .slice ma la ka] 25)) (.cells #[.bool sb, .slice mb lb kb] 25)))
      replace PA := hide (PA.out.step (below_alloc (t1.alloc (.cells #[.bool sa, .slice ma la ka] 25)) (.cells #[.bool sb, .slice mb lb kb] 25)))
      have PB := hide (Box.new (t1.alloc (.cells #[.bool sa, .slice ma la ka] 25)) (.bool sb) (.slice mb lb kb))
      simp only [World.size_alloc] at PB
      generalize ((t1.alloc (.cells #[.bool sa, .slice ma la ka] 25)).alloc (.cells #[.bool sb, .slice mb lb kb] 25)) = t2 at *
      generalize t1.heap.size = ga at *
      have g0 := PG.out.cell0
      have g1 := PG.out.cell1
      have r0 := PR.out.cell0
      have r1 := PR.out.cell1
      have b0 := PB.out.cell0
      have b1 := PB.out.cell1
      have gf0 := PG.out.free 0
      have gf1 := PG.out.free 1
      have rf0 := PR.out.free 0
      have rf1 := PR.out.free 1
      have a1 := LT1.out
      have a3 := LT3.out
      have a5 := LT5.out
      have a7 := LT7.out
      obtain ⟨a71, a72, a73⟩ := a7
      go_wp2_with fail
      go_region
      go_wp2_with fail
      clear g0 g1 r0 r1 b0 b1 gf0 gf1 rf0 rf1 a1 a3 a5 a71 a72 a73
      have hk1 := PG.out.keeps (by simp) (by simp) (.bool sr) (.slice mr lr kr)
      have hk2 := (PR.out.other (C := gg) (by have a1 := LT1.out; have a3 := LT3.out; have a5 := LT5.out; have a7 := LT7.out; omega) (.bool sr) (.slice mr lr kr)).keeps (by simp) (by simp) (.bool sb) (.slice mb lb kb)
      replace HB := hide (below_put (below_put HB.out (show w.heap.size ≤ gg by have a1 := LT1.out; omega) (.bool sr) (.slice mr lr kr)) (show w.heap.size ≤ (gq + 1) by have a1 := LT1.out; have a3 := LT3.out; omega) (.bool sb) (.slice mb lb kb)).drew
      replace P2 := hide ((P2.out.other (C := gg) (by have a1 := LT1.out; have a3 := LT3.out; have a5 := LT5.out; have a7 := LT7.out; omega) (.bool sr) (.slice mr lr kr)).other (C := (gq + 1)) (by have a1 := LT1.out; have a3 := LT3.out; have a5 := LT5.out; have a7 := LT7.out; omega) (.bool sb) (.slice mb lb kb)).drew
      replace P3 := hide ((P3.out.other (C := gg) (by have a1 := LT1.out; have a3 := LT3.out; have a5 := LT5.out; have a7 := LT7.out; omega) (.bool sr) (.slice mr lr kr)).other (C := (gq + 1)) (by have a1 := LT1.out; have a3 := LT3.out; have a5 := LT5.out; have a7 := LT7.out; omega) (.bool sb) (.slice mb lb kb)).drew
      replace PU := hide ((PU.out.other (C := gg) (by have a1 := LT1.out; have a3 := LT3.out; have a5 := LT5.out; have a7 := LT7.out; omega) (.bool sr) (.slice mr lr kr)).other (C := (gq + 1)) (by have a1 := LT1.out; have a3 := LT3.out; have a5 := LT5.out; have a7 := LT7.out; omega) (.bool sb) (.slice mb lb kb)).drew
      replace PN := hide ((PN.out.other (C := gg) (by have a1 := LT1.out; have a3 := LT3.out; have a5 := LT5.out; have a7 := LT7.out; omega) (.bool sr) (.slice mr lr kr)).other (C := (gq + 1)) (by have a1 := LT1.out; have a3 := LT3.out; have a5 := LT5.out; have a7 := LT7.out; omega) (.bool sb) (.slice mb lb kb)).drew
      replace PA := hide ((PA.out.other (C := gg) (by have a1 := LT1.out; have a3 := LT3.out; have a5 := LT5.out; have a7 := LT7.out; omega) (.bool sr) (.slice mr lr kr)).other (C := (gq + 1)) (by have a1 := LT1.out; have a3 := LT3.out; have a5 := LT5.out; have a7 := LT7.out; omega) (.bool sb) (.slice mb lb kb)).drew
      replace PG := hide ((PG.out.put (.bool sr) (.slice mr lr kr)).other (C := (gq + 1)) (by have a1 := LT1.out; have a3 := LT3.out; have a5 := LT5.out; have a7 := LT7.out; omega) (.bool sb) (.slice mb lb kb)).drew
      replace PR := hide ((PR.out.other (C := gg) (by have a1 := LT1.out; have a3 := LT3.out; have a5 := LT5.out; have a7 := LT7.out; omega) (.bool sr) (.slice mr lr kr)).put (.bool sb) (.slice mb lb kb)).drew
      replace IR := hide (((IR.out.keep hk1).keep hk2).drew)
      replace IB := hide (((IB.out.keep hk1).keep hk2).drew)
      replace IU := hide (((IU.out.keep hk1).keep hk2).drew)
      replace IN := hide (((IN.out.keep hk1).keep hk2).drew)
      replace IA := hide (((IA.out.keep hk1).keep hk2).drew)
      clear hk1 hk2 IG PB
      generalize ((((t2.setCell ⟨gg, 0, none⟩ (.bool sr)).setCell ⟨gg, 1, none⟩ (.slice mr lr kr)).setCell ⟨(gq + 1), 0, none⟩ (.bool sb)).setCell ⟨(gq + 1), 1, none⟩ (.slice mb lb kb)).drew = t3 at *
      refine wp_calm (fun w' => Below w.heap.size w w' ∧ Box w' (w.heap.size + 1 + 1) (.bool false) (.slice none 0 0) ∧ Box w' (w.heap.size + 1 + 1 + 1) (.bool false) (.slice none 0 0) ∧ Box w' gg (.bool sr) (.slice mr lr kr) ∧ Box w' (gg + 1) (.bool su) (.slice mu lu ku) ∧ Box w' (gq + 1) (.bool sb) (.slice mb lb kb) ∧ Box w' gn (.bool sn) (.slice mn ln kn) ∧ Box w' ga (.bool sa) (.slice ma la ka) ∧ IntAt w' (.agg #[.bool sr, .slice mr lr kr]) (r : Int) ∧ IntAt w' (.agg #[.bool su, .slice mu lu ku]) u ∧ IntAt w' (.agg #[.bool sb, .slice mb lb kb]) ((g % r : Nat) : Int) ∧ IntAt w' (.agg #[.bool sn, .slice mn ln kn]) v ∧ IntAt w' (.agg #[.bool sa, .slice ma la ka]) ((g / r : Nat) : Int)) (fun j => j != 6 && j != 7) 8 #[false, false, false, false, false, false, false, false] (by kernel_rfl) rfl rfl ?_
      have HF := hide (And.intro (HB.out.drew) (And.intro (P2.out.drew) (And.intro (P3.out.drew) (And.intro (PG.out.drew) (And.intro (PU.out.drew) (And.intro (PR.out.drew) (And.intro (PN.out.drew) (And.intro (PA.out.drew) (And.intro (IR.out.drew) (And.intro (IU.out.drew) (And.intro (IB.out.drew) (And.intro (IN.out.drew) (IA.out.drew)))))))))))))
      generalize t3.drew = t3d at *
      refine Calm.takeL 8 (i := 0) (v := ?_) (a' := ?_) (l' := #[true, false, false, false, false, false, false, false]) (d := some 38) (by kernel_rfl) rfl (by kernel_rfl) (by kernel_rfl) (by kernel_rfl) (by kernel_rfl) (fun _ _ _ h => h) HF.out rfl ?_ rfl rfl ?_ ?_
      rotate_left
      · intro w' hF; have f10 := hF.2.1.cell0; have f11 := hF.2.1.cell1; have f20 := hF.2.2.1.cell0; have f21 := hF.2.2.1.cell1; have f30 := hF.2.2.2.1.cell0; have f31 := hF.2.2.2.1.cell1; have f40 := hF.2.2.2.2.1.cell0; have f41 := hF.2.2.2.2.1.cell1; have f50 := hF.2.2.2.2.2.1.cell0; have f51 := hF.2.2.2.2.2.1.cell1; have f60 := hF.2.2.2.2.2.2.1.cell0; have f61 := hF.2.2.2.2.2.2.1.cell1; have f70 := hF.2.2.2.2.2.2.2.1.cell0; have f71 := hF.2.2.2.2.2.2.2.1.cell1; clear hF; go_simp; try rfl
      rotate_left
      · simp only [Act.put]; exact rfl
      refine Calm.takeL 8 (i := 1) (v := ?_) (a' := ?_) (l' := #[true, true, false, false, false, false, false, false]) (d := some 39) (by kernel_rfl) rfl (by kernel_rfl) (by kernel_rfl) (by kernel_rfl) (by kernel_rfl) (fun _ _ _ h => h) HF.out rfl ?_ rfl rfl ?_ ?_
      rotate_left
      · intro w' hF; have f10 := hF.2.1.cell0; have f11 := hF.2.1.cell1; have f20 := hF.2.2.1.cell0; have f21 := hF.2.2.1.cell1; have f30 := hF.2.2.2.1.cell0; have f31 := hF.2.2.2.1.cell1; have f40 := hF.2.2.2.2.1.cell0; have f41 := hF.2.2.2.2.1.cell1; have f50 := hF.2.2.2.2.2.1.cell0; have f51 := hF.2.2.2.2.2.1.cell1; have f60 := hF.2.2.2.2.2.2.1.cell0; have f61 := hF.2.2.2.2.2.2.1.cell1; have f70 := hF.2.2.2.2.2.2.2.1.cell0; have f71 := hF.2.2.2.2.2.2.2.1.cell1; clear hF; go_simp; try rfl
      rotate_left
      · simp only [Act.put]; exact rfl
      refine Calm.takeL 8 (i := 2) (v := ?_) (a' := ?_) (l' := #[true, true, true, false, false, false, false, false]) (d := some 40) (by kernel_rfl) rfl (by kernel_rfl) (by kernel_rfl) (by kernel_rfl) (by kernel_rfl) (fun _ _ _ h => h) HF.out rfl ?_ rfl rfl ?_ ?_
      rotate_left
      · intro w' hF; have f10 := hF.2.1.cell0; have f11 := hF.2.1.cell1; have f20 := hF.2.2.1.cell0; have f21 := hF.2.2.1.cell1; have f30 := hF.2.2.2.1.cell0; have f31 := hF.2.2.2.1.cell1; have f40 := hF.2.2.2.2.1.cell0; have f41 := hF.2.2.2.2.1.cell1; have f50 := hF.2.2.2.2.2.1.cell0; have f51 := hF.2.2.2.2.2.1.cell1; have f60 := hF.2.2.2.2.2.2.1.cell0; have f61 := hF.2.2.2.2.2.2.1.cell1; have f70 := hF.2.2.2.2.2.2.2.1.cell0; have f71 := hF.2.2.2.2.2.2.2.1.cell1; clear hF; go_simp; try rfl
      rotate_left
      · simp only [Act.put]; exact rfl
      refine Calm.takeL 8 (i := 3) (v := ?_) (a' := ?_) (l' := #[true, true, true, true, false, false, false, false]) (d := some 41) (by kernel_rfl) rfl (by kernel_rfl) (by kernel_rfl) (by kernel_rfl) (by kernel_rfl) (fun _ _ _ h => h) HF.out rfl ?_ rfl rfl ?_ ?_
      rotate_left
      · intro w' hF; have f10 := hF.2.1.cell0; have f11 := hF.2.1.cell1; have f20 := hF.2.2.1.cell0; have f21 := hF.2.2.1.cell1; have f30 := hF.2.2.2.1.cell0; have f31 := hF.2.2.2.1.cell1; have f40 := hF.2.2.2.2.1.cell0; have f41 := hF.2.2.2.2.1.cell1; have f50 := hF.2.2.2.2.2.1.cell0; have f51 := hF.2.2.2.2.2.1.cell1; have f60 := hF.2.2.2.2.2.2.1.cell0; have f61 := hF.2.2.2.2.2.2.1.cell1; have f70 := hF.2.2.2.2.2.2.2.1.cell0; have f71 := hF.2.2.2.2.2.2.2.1.cell1; clear hF; go_simp; try rfl
      rotate_left
      · simp only [Act.put]; exact rfl
      refine Calm.one (i := 4) (l' := #[true, true, true, true, true, false, false, false]) (by kernel_rfl) rfl rfl rfl fun K hK => ?_
      go_simp
      refine (imul_any _ _ ((g / r : Nat) : Int) v _ HF.out.2.2.2.2.2.2.2.2.2.2.2.2 HF.out.2.2.2.2.2.2.2.2.2.2.2.1 (SzI.len (SK.out _ (by rw [Int.natAbs_natCast]; exact Nat.le_trans (Nat.div_le_self _ _) HAT.out.gl)) (by omega)) (SzI.len (SK.out _ HSM.out.2.1) (by omega))).mono ?_
      rintro e t4 ⟨v4, rfl, n4, hb⟩
      have HF' := hide (And.intro (HF.out.1.trans ((hb).mono HF.out.1.size)) (And.intro (HF.out.2.1.step (hb)) (And.intro (HF.out.2.2.1.step (hb)) (And.intro (HF.out.2.2.2.1.step (hb)) (And.intro (HF.out.2.2.2.2.1.step (hb)) (And.intro (HF.out.2.2.2.2.2.1.step (hb)) (And.intro (HF.out.2.2.2.2.2.2.1.step (hb)) (And.intro (HF.out.2.2.2.2.2.2.2.1.step (hb)) (And.intro (HF.out.2.2.2.2.2.2.2.2.1.below (hb)) (And.intro (HF.out.2.2.2.2.2.2.2.2.2.1.below (hb)) (And.intro (HF.out.2.2.2.2.2.2.2.2.2.2.1.below (hb)) (And.intro (HF.out.2.2.2.2.2.2.2.2.2.2.2.1.below (hb)) (HF.out.2.2.2.2.2.2.2.2.2.2.2.2.below (hb))))))))))))))
      have T4 := hide (n4)
      refine hK _ _ (fun _ => HF'.out) ?_
      clear hK K HF hb n4
      have HF := hide HF'.out
      clear HF'
      refine Calm.one (i := 5) (l' := #[true, true, true, true, true, true, false, false]) (by kernel_rfl) rfl rfl rfl fun K hK => ?_
      go_simp
      refine (isub_any _ _ u (((g / r : Nat) : Int) * v) _ HF.out.2.2.2.2.2.2.2.2.2.1 T4.out (SzI.len (SK.out _ HSM.out.1) (by omega)) (SzI.len (SzI.mul (SK.out _ (by rw [Int.natAbs_natCast]; exact Nat.le_trans (Nat.div_le_self _ _) HAT.out.gl)) (SK.out _ HSM.out.2.1)) (by omega))).mono ?_
      rintro e t5 ⟨v5, rfl, n5, hb⟩
      obtain ⟨sz, mz, lz, kz, rfl, n5⟩ := n5.cells
      clear T4
      have HF' := hide (And.intro (HF.out.1.trans ((hb).mono HF.out.1.size)) (And.intro (HF.out.2.1.step (hb)) (And.intro (HF.out.2.2.1.step (hb)) (And.intro (HF.out.2.2.2.1.step (hb)) (And.intro (HF.out.2.2.2.2.1.step (hb)) (And.intro (HF.out.2.2.2.2.2.1.step (hb)) (And.intro (HF.out.2.2.2.2.2.2.1.step (hb)) (And.intro (HF.out.2.2.2.2.2.2.2.1.step (hb)) (And.intro (HF.out.2.2.2.2.2.2.2.2.1.below (hb)) (And.intro (HF.out.2.2.2.2.2.2.2.2.2.1.below (hb)) (And.intro (HF.out.2.2.2.2.2.2.2.2.2.2.1.below (hb)) (And.intro (HF.out.2.2.2.2.2.2.2.2.2.2.2.1.below (hb)) (HF.out.2.2.2.2.2.2.2.2.2.2.2.2.below (hb))))))))))))))
      have T5 := hide (n5)
      refine hK _ _ (fun _ => HF'.out) ?_
      clear hK K HF hb n5
      have HF := hide HF'.out
      clear HF'
      refine Calm.one (i := 6) (l' := #[true, true, true, true, true, true, true, false]) (by kernel_rfl) rfl rfl rfl fun K hK => ?_
      have hc0 := HF.out.2.2.2.2.1.cell0
      have hc1 := HF.out.2.2.2.2.1.cell1
      have hf0 := HF.out.2.2.2.2.1.free 0
      have hf1 := HF.out.2.2.2.2.1.free 1
      go_simp
      refine hK _ _ (fun h => absurd h (by decide)) ?_
      clear hK K
      refine Calm.one (i := 7) (l' := #[true, true, true, true, true, true, true, true]) (by kernel_rfl) rfl rfl rfl fun K hK => ?_
      clear hc0 hc1 hf0 hf1
      have hp := HF.out.2.2.2.2.2.2.1.other (C := (gg + 1)) (by have a1 := LT1.out; have a3 := LT3.out; have a5 := LT5.out; have a7 := LT7.out; omega) (.bool sn) (.slice mn ln kn)
      have hc0 := hp.cell0
      have hc1 := hp.cell1
      have hf0 := hp.free 0
      have hf1 := hp.free 1
      clear hp
      go_simp
      refine hK _ _ (fun h => absurd h (by decide)) ?_
      clear hK K
      refine Calm.done (by kernel_rfl) ?_
      clear hc0 hc1 hf0 hf1
      have hk1 := HF.out.2.2.2.2.1.keeps (by simp) (by simp) (.bool sn) (.slice mn ln kn)
      have hk2 := (HF.out.2.2.2.2.2.2.1.other (C := (gg + 1)) (by have a1 := LT1.out; have a3 := LT3.out; have a5 := LT5.out; have a7 := LT7.out; omega) (.bool sn) (.slice mn ln kn)).keeps (by simp) (by simp) (.bool sz) (.slice mz lz kz)
      have HBn := hide (below_put (below_put HF.out.1 (show w.heap.size ≤ (gg + 1) by have a1 := LT1.out; omega) (.bool sn) (.slice mn ln kn)) (show w.heap.size ≤ gn by have a1 := LT1.out; have a3 := LT3.out; have a5 := LT5.out; omega) (.bool sz) (.slice mz lz kz))
      have P2n := hide ((HF.out.2.1.other (C := (gg + 1)) (by have a1 := LT1.out; have a3 := LT3.out; have a5 := LT5.out; have a7 := LT7.out; omega) (.bool sn) (.slice mn ln kn)).other (C := gn) (by have a1 := LT1.out; have a3 := LT3.out; have a5 := LT5.out; have a7 := LT7.out; omega) (.bool sz) (.slice mz lz kz))
      have P3n := hide ((HF.out.2.2.1.other (C := (gg + 1)) (by have a1 := LT1.out; have a3 := LT3.out; have a5 := LT5.out; have a7 := LT7.out; omega) (.bool sn) (.slice mn ln kn)).other (C := gn) (by have a1 := LT1.out; have a3 := LT3.out; have a5 := LT5.out; have a7 := LT7.out; omega) (.bool sz) (.slice mz lz kz))
      have PGn := hide ((HF.out.2.2.2.1.other (C := (gg + 1)) (by have a1 := LT1.out; have a3 := LT3.out; have a5 := LT5.out; have a7 := LT7.out; omega) (.bool sn) (.slice mn ln kn)).other (C := gn) (by have a1 := LT1.out; have a3 := LT3.out; have a5 := LT5.out; have a7 := LT7.out; omega) (.bool sz) (.slice mz lz kz))
      have PUn := hide ((HF.out.2.2.2.2.1.put (.bool sn) (.slice mn ln kn)).other (C := gn) (by have a1 := LT1.out; have a3 := LT3.out; have a5 := LT5.out; have a7 := LT7.out; omega) (.bool sz) (.slice mz lz kz))
      have PRn := hide ((HF.out.2.2.2.2.2.1.other (C := (gg + 1)) (by have a1 := LT1.out; have a3 := LT3.out; have a5 := LT5.out; have a7 := LT7.out; omega) (.bool sn) (.slice mn ln kn)).other (C := gn) (by have a1 := LT1.out; have a3 := LT3.out; have a5 := LT5.out; have a7 := LT7.out; omega) (.bool sz) (.slice mz lz kz))
      have PNn := hide ((HF.out.2.2.2.2.2.2.1.other (C := (gg + 1)) (by have a1 := LT1.out; have a3 := LT3.out; have a5 := LT5.out; have a7 := LT7.out; omega) (.bool sn) (.slice mn ln kn)).put (.bool sz) (.slice mz lz kz))
      have IGn := hide ((HF.out.2.2.2.2.2.2.2.2.1.keep hk1).keep hk2)
      have IUn := hide ((HF.out.2.2.2.2.2.2.2.2.2.2.2.1.keep hk1).keep hk2)
      have IRn := hide ((HF.out.2.2.2.2.2.2.2.2.2.2.1.keep hk1).keep hk2)
      have INn := hide ((T5.out.keep hk1).keep hk2)
      clear HF hk1 hk2 T5
      go_wp2
      go_roundw
      case rel => exact ⟨r, g % r, v, u - ((g / r : Nat) : Int) * v, sr, mr, lr, kr, sn, mn, ln, kn, sb, mb, lb, kb, sz, mz, lz, kz, HAT.out.step HRP.out, HBn.out, P2n.out, P3n.out, PGn.out, PUn.out, PRn.out, PNn.out, IGn.out, IUn.out, IRn.out, INn.out⟩
      case measure => rw [numAt_eq PRn.out IRn.out, numAt_eq PR0.out IR0.out]; exact Nat.mod_lt _ HRP.out
end Go.Proofs.YteogbhgogiaocaaDoor
