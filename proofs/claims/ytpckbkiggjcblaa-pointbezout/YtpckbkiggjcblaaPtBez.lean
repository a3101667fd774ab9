/- Points: how the greatest divisor is put together (the program's least, Bezout; the document's Bezout). -/
import Derived.Test.YtpckbkiggjcblaaPtMath
import Derived.Test.YtpckbkiggjcblaaPtDet
import Derived.OwnWalk
namespace Go.Proofs.Ytpckbkiggjcblaa
open Go.RowKit

def hitB (a b g u : Int) : Bool := decide ((g - u * a).tmod b = 0)
def bzS (a b g : Int) : Nat → Nat → Int
  | 0, _ => 0
  | f + 1, k => if hitB a b g k then k else if hitB a b g (-k) then -k else bzS a b g f (k + 1)
def bU (a b : Int) : Int := bzS a b (gI a b) 17 0
def bV (a b : Int) : Int := (gI a b - bU a b * a).tdiv b

def fineZ (a b : Int) : Bool :=
  decide (b = 0) || (hitB a b (gI a b) (bU a b) && (List.range (bU a b).natAbs).all (fun k => !hitB a b (gI a b) k && !hitB a b (gI a b) (-k)) && (decide (0 ≤ bU a b) || !hitB a b (gI a b) (-bU a b)) &&
    decide ((bU a b).natAbs ≤ 16 ∧ (bV a b).natAbs ≤ 16 ∧ bU a b * a + bV a b * b = gI a b))
theorem fineZ_all : (List.range 33).all (fun i => (List.range 33).all fun j => fineZ ((i : Int) - 16) ((j : Int) - 16)) = true := by decide +kernel

/-- what is known of Bezout's u -/
structure BzFact (a b : Int) : Prop where
  hit : (gI a b - bU a b * a).tmod b = 0
  no : ∀ k : Nat, k < (bU a b).natAbs → (gI a b - (k : Int) * a).tmod b ≠ 0 ∧ (gI a b - (-(k : Int)) * a).tmod b ≠ 0
  pos : bU a b < 0 → (gI a b - (-bU a b) * a).tmod b ≠ 0
  u16 : (bU a b).natAbs ≤ 16
  v16 : (bV a b).natAbs ≤ 16
  sum : bU a b * a + bV a b * b = gI a b
theorem bzfact {a b : Int} (ha : -16 ≤ a) (ha' : a ≤ 16) (hb : -16 ≤ b) (hb' : b ≤ 16) (h0 : b ≠ 0) : BzFact a b := by
  have h1 := List.all_eq_true.1 fineZ_all (a + 16).toNat (List.mem_range.2 (by omega))
  have h2 := List.all_eq_true.1 h1 (b + 16).toNat (List.mem_range.2 (by omega))
  have e1 : (((a + 16).toNat : Nat) : Int) - 16 = a := by omega
  have e2 : (((b + 16).toNat : Nat) : Int) - 16 = b := by omega
  rw [e1, e2] at h2
  unfold fineZ at h2
  rw [decide_eq_false h0, Bool.false_or] at h2
  simp only [Bool.and_eq_true] at h2
  obtain ⟨⟨⟨k1, k2⟩, k3⟩, k4⟩ := h2
  have k4 := of_decide_eq_true k4
  refine ⟨of_decide_eq_true k1, fun k hk => ?_, fun hn => ?_, k4.1, k4.2.1, k4.2.2⟩
  · have := List.all_eq_true.1 k2 k (List.mem_range.2 hk)
    simp only [Bool.and_eq_true, Bool.not_eq_true'] at this
    exact ⟨of_decide_eq_false this.1, of_decide_eq_false this.2⟩
  · rw [decide_eq_false (by omega), Bool.false_or, Bool.not_eq_true'] at k3
    exact of_decide_eq_false k3
theorem BzFact.yes {a b : Int} (h : BzFact a b) {k : Nat} (hk : k ≤ (bU a b).natAbs) (e : (gI a b - (k : Int) * a).tmod b = 0) : bU a b = k := by
  have h1 : ¬ k < (bU a b).natAbs := fun l => (h.no k l).1 e
  by_cases hn : bU a b < 0
  · have := h.pos hn
    rw [show -bU a b = (k : Int) from by omega] at this
    exact absurd e this
  · omega
theorem BzFact.neg {a b : Int} (h : BzFact a b) {k : Nat} (hk : k ≤ (bU a b).natAbs) (n : (gI a b - (k : Int) * a).tmod b ≠ 0) (e : (gI a b - (-(k : Int)) * a).tmod b = 0) : bU a b = -(k : Int) := by
  have h1 : ¬ k < (bU a b).natAbs := fun l => (h.no k l).2 e
  by_cases hp : 0 ≤ bU a b
  · have h2 : bU a b = (k : Int) := by omega
    have := h.hit
    rw [h2] at this
    exact absurd this n
  · omega
theorem BzFact.on {a b : Int} (h : BzFact a b) {k : Nat} (hk : k ≤ (bU a b).natAbs) (n : (gI a b - (k : Int) * a).tmod b ≠ 0) (n' : (gI a b - (-(k : Int)) * a).tmod b ≠ 0) : k + 1 ≤ (bU a b).natAbs := by
  have : (bU a b).natAbs ≠ k := by
    intro e
    have hh := h.hit
    by_cases hp : 0 ≤ bU a b
    · rw [show bU a b = (k : Int) from by omega] at hh; exact n hh
    · rw [show bU a b = -(k : Int) from by omega] at hh; exact n' hh
  omega
theorem mul_small (k : Nat) (a : Int) (hk : k ≤ 16) (ha : -16 ≤ a) (ha' : a ≤ 16) : -256 ≤ (k : Int) * a ∧ (k : Int) * a ≤ 256 := by
  have h1 : ((k : Int) * a).natAbs ≤ 16 * 16 := by rw [Int.natAbs_mul]; exact Nat.mul_le_mul (by omega) (by omega)
  omega

theorem wrap_td (x b : Int) (h : -1000 ≤ x) (h' : x ≤ 1000) : wrap64 (x.tdiv b) = x.tdiv b := by
  have h1 : (x.tdiv b).natAbs ≤ x.natAbs := by rw [Int.natAbs_tdiv]; exact Nat.div_le_self _ _
  unfold wrap64; omega
theorem two_eq {a b p q : Int} (h1 : a = p) (h2 : b = q) : Ending.returned (.tuple #[.int .i64 a, .int .i64 b]) = .returned (.tuple #[.int .i64 p, .int .i64 q]) := by rw [h1, h2]
theorem three_eq {a b c p q r : Int} (h1 : a = p) (h2 : b = q) (h3 : c = r) : Ending.returned (.tuple #[.int .i64 a, .int .i64 b, .int .i64 c]) = .returned (.tuple #[.int .i64 p, .int .i64 q, .int .i64 r]) := by rw [h1, h2, h3]
theorem Try.idx0 (W : World) (x y : Value) : Sem.run Try.prog (Instr.index 55 (.agg #[x, y]) (.int .i64 0)) W = .ok x W := by kernel_rfl
theorem Try.idx1 (W : World) (x y : Value) : Sem.run Try.prog (Instr.index 55 (.agg #[x, y]) (.int .i64 1)) W = .ok y W := by kernel_rfl

set_option maxRecDepth 100000 in
set_option maxHeartbeats 2000000 in
theorem least_any (a b : Int) (w : World) (ha : -16 ≤ a) (ha' : a ≤ 16) (hb : -16 ≤ b) (hb' : b ≤ 16) (h0 : b ≠ 0) :
    Calls Try.prog 28 #[.agg #[.int .i64 a, .int .i64 b], .int .i64 (gI a b)] w fun e w' => e = .returned (.tuple #[.int .i64 (bU a b), .int .i64 (bV a b)]) ∧ Below w.heap.size w w' := by
  have BF := hide (bzfact ha ha' hb hb' h0)
  have hg0 := gI_nonneg a b
  have hg1 := gI_le a b 16 ha ha' hb hb'
  have HX := hide (Box2.new w 23 (.int .i64 a) (.int .i64 b))
  have HV : Hid (bV a b = (gI a b - bU a b * a).tdiv b) := rfl
  obtain ⟨g, hg⟩ : ∃ g, g = gI a b := ⟨_, rfl⟩
  have HG := hide hg
  rw [← hg] at hg0 hg1 ⊢
  clear hg
  go_enter Try.func28, Try.ntmps28
  go_wp2
  go_loopw [6, 8, 9] (fun kv _ _ wr => ∃ k : Nat, kv = .int .i64 k ∧ k ≤ (bU a b).natAbs ∧ Box2 wr w.heap.size 23 (.int .i64 a) (.int .i64 b) ∧ Below w.heap.size w wr) (fun kv _ _ _ => 17 - (intOf kv).toNat)
  case atStart => exact ⟨0, rfl, Nat.zero_le _, HX.out, below_alloc _ _⟩
  case round =>
    obtain ⟨k, rfl, hk, hx, hbel⟩ := hrel
    have HK := hide hk
    replace HX := hide hx
    have HB := hide hbel
    have hk16 : k ≤ 16 := Nat.le_trans hk BF.out.u16
    have hm := mul_small k a hk16 ha ha'
    clear hk hbel
    have c0 := hx.cell0
    have c1 := hx.cell1
    clear hx
    have ix0 := Try.idx0
    have ix1 := Try.idx1
    go_wp2
    refine wp_loop_rounds 3 ?_
    rw [rounds_succ]
    by_cases h1 : (g - (k : Int) * a).tmod b = 0
    · go_wp2
      go_quiet (fail)
      go_wp2
      go_ret2
      refine ⟨?_, below_drewN HB.out _⟩
      have hu := BF.out.yes HK.out (by rw [← HG.out]; exact h1)
      rw [HV.out, hu, ← HG.out]
      exact two_eq rfl (wrap_td _ b (by omega) (by omega))
    · have hm' : -256 ≤ -(k : Int) * a ∧ -(k : Int) * a ≤ 256 := by rw [Int.neg_mul]; omega
      go_wp2
      rw [rounds_succ]
      by_cases h2 : (g - (-(k : Int)) * a).tmod b = 0
      · go_wp2
        go_quiet (fail)
        go_wp2
        go_ret2
        refine ⟨?_, below_drewN HB.out _⟩
        have hu := BF.out.neg HK.out (by rw [← HG.out]; exact h1) (by rw [← HG.out]; exact h2)
        rw [HV.out, hu, ← HG.out]
        exact two_eq rfl (wrap_td _ b (by omega) (by omega))
      · have HN := hide (BF.out.on HK.out (by rw [← HG.out]; exact h1) (by rw [← HG.out]; exact h2))
        go_wp2
        rw [rounds_succ]
        go_wp2
        go_roundw
        case rel => exact ⟨k + 1, by go_num, HN.out, HX.out, HB.out⟩
        case measure => simp only [intOf]; omega

set_option maxRecDepth 100000 in
set_option maxHeartbeats 2000000 in
theorem rbez_any (a b : Int) (w : World) (ha : -16 ≤ a) (ha' : a ≤ 16) (hb : -16 ≤ b) (hb' : b ≤ 16) (h0 : b ≠ 0) :
    Calls Try.prog 21 #[.agg #[.int .i64 a, .int .i64 b]] w fun e w' => e = .returned (.tuple #[.int .i64 (gI a b), .int .i64 (bU a b), .int .i64 (bV a b)]) ∧ Below w.heap.size w w' := by
  have BF := hide (bzfact ha ha' hb hb' h0)
  have hg0 := gI_nonneg a b
  have hg1 := gI_le a b 16 ha ha' hb hb'
  have hgn : gI a b ≠ 0 := by unfold gI; have := Int.gcd_pos_of_ne_zero_right a h0; omega
  have HX := hide (Box2.new w 23 (.int .i64 a) (.int .i64 b))
  have HB := hide (below_alloc w (.cells #[.int .i64 a, .int .i64 b] 23))
  have HV : Hid (bV a b = (gI a b - bU a b * a).tdiv b) := rfl
  go_enter Try.func21, Try.ntmps21
  go_wp2_with fail
  generalize w.alloc (.cells #[.int .i64 a, .int .i64 b] 23) = w0 at *
  refine (common_any a b _ ha ha' hb hb').mono ?_
  rintro e w1 ⟨rfl, hb1⟩
  replace HX := hide (HX.out.step hb1)
  replace HB := hide (HB.out.trans (hb1.mono HB.out.size))
  clear hb1
  obtain ⟨g, hg⟩ : ∃ g, g = gI a b := ⟨_, rfl⟩
  have HG := hide hg
  rw [← hg] at hg0 hg1 hgn ⊢
  clear hg
  have c0 := HX.out.cell0
  have c1 := HX.out.cell1
  go_wp2
  clear c0 c1
  go_loopw [6] (fun kv wr => ∃ k : Nat, kv = .int .i64 k ∧ k ≤ (bU a b).natAbs ∧ Box2 wr w.heap.size 23 (.int .i64 a) (.int .i64 b) ∧ Below w.heap.size w wr) (fun kv _ => 17 - (intOf kv).toNat)
  case atStart => exact ⟨0, rfl, Nat.zero_le _, HX.out, HB.out⟩
  case round =>
    obtain ⟨k, rfl, hk, hx, hbel⟩ := hrel
    have HK := hide hk
    replace HX := hide hx
    replace HB := hide hbel
    have hk16 : k ≤ 16 := Nat.le_trans hk BF.out.u16
    have hm := mul_small k a hk16 ha ha'
    clear hk hbel
    have c0 := hx.cell0
    have c1 := hx.cell1
    clear hx
    by_cases h1 : (g - (k : Int) * a).tmod b = 0
    · go_wp2
      go_quiet (fail)
      go_wp2
      go_ret3
      refine ⟨?_, below_drewN HB.out _⟩
      have hu := BF.out.yes HK.out (by rw [← HG.out]; exact h1)
      rw [HV.out, hu, ← HG.out]
      exact three_eq rfl rfl (wrap_td _ b (by omega) (by omega))
    · by_cases h2 : (g + (k : Int) * a).tmod b = 0
      · go_wp2
        go_quiet (fail)
        go_wp2
        go_ret3
        refine ⟨?_, below_drewN HB.out _⟩
        have e2 : g - (-(k : Int)) * a = g + (k : Int) * a := by rw [Int.neg_mul]; omega
        have hu := BF.out.neg HK.out (by rw [← HG.out]; exact h1) (by rw [← HG.out, e2]; exact h2)
        rw [HV.out, hu, ← HG.out, e2]
        exact three_eq rfl rfl (wrap_td _ b (by omega) (by omega))
      · have e2 : g - (-(k : Int)) * a = g + (k : Int) * a := by rw [Int.neg_mul]; omega
        have HN := hide (BF.out.on HK.out (by rw [← HG.out]; exact h1) (by rw [← HG.out, e2]; exact h2))
        clear e2
        go_wp2
        go_roundw
        case rel => exact ⟨k + 1, by go_num, HN.out, HX.out, HB.out⟩
        case measure => simp only [intOf]; omega

/-- the signs that are told where B is 0 -/
def sgZ (a : Int) : Int := if a < 0 then -1 else if 0 < a then 1 else 0
theorem sgZ_div {a : Int} (h : a ≠ 0) : a.tdiv (gI a 0) = sgZ a ∧ sgZ a * a = gI a 0 ∧ gI a 0 ≠ 0 := by
  have e : gI a 0 = (a.natAbs : Int) := by unfold gI; rw [Int.gcd_zero]
  rw [e]
  unfold sgZ
  by_cases hn : a < 0
  · rw [if_pos hn]
    refine ⟨?_, by omega, by omega⟩
    have : (a.natAbs : Int) = -a := by omega
    rw [this, Int.tdiv_neg, Int.tdiv_self h]
  · rw [if_neg hn, if_pos (by omega)]
    refine ⟨?_, by omega, by omega⟩
    have : (a.natAbs : Int) = a := by omega
    rw [this, Int.tdiv_self h]
theorem results_tmp4 {fn : Func} {t u v x : Tmp} (h : fn.results = #[.tmp t, .tmp u, .tmp v, .tmp x]) (tmps : Array Value) (P : Program) (w : World) :
    (results fn tmps).run P w = .ok (.tuple #[tmps.getD t undef, tmps.getD u undef, tmps.getD v undef, tmps.getD x undef]) w := by
  simp [results, h]
/-- Bezout's u and v of any point that is in -/
def bUV (a b : Int) : Int × Int := if b ≠ 0 then (bU a b, bV a b) else (sgZ a, 0)

set_option maxRecDepth 100000 in
set_option maxHeartbeats 1000000 in
theorem rbez_all (a b : Int) (w : World) (h : inB a b = true) :
    Calls Try.prog 21 #[.agg #[.int .i64 a, .int .i64 b]] w fun e w' => e = .returned (.tuple #[.int .i64 (gI a b), .int .i64 (bUV a b).1, .int .i64 (bUV a b).2]) ∧ Below w.heap.size w w' := by
  obtain ⟨⟨ha, ha'⟩, hb, hb'⟩ := in_yes h
  by_cases h0 : b = 0
  · rw [show bUV a b = (sgZ a, 0) from if_neg (by simp [h0])]
    subst h0
    have hg0 := gI_nonneg a 0
    have hg1 := gI_le a 0 16 ha ha' hb hb'
    have HX := hide (Box2.new w 23 (.int .i64 a) (.int .i64 0))
    have HB := hide (below_alloc w (.cells #[.int .i64 a, .int .i64 0] 23))
    clear h
    by_cases hz : a = 0
    · subst hz
      have e0 : gI 0 0 = 0 := rfl
      rw [e0]
      go_enter Try.func21, Try.ntmps21
      go_wp2_with fail
      generalize w.alloc (.cells #[.int .i64 0, .int .i64 0] 23) = w0 at *
      refine (common_any 0 0 _ ha ha' hb hb').mono ?_
      rintro e w1 ⟨rfl, hb1⟩
      replace HB := hide (HB.out.trans (hb1.mono HB.out.size))
      rw [e0]
      clear hb1 HX
      go_wp2
      go_ret3
      exact ⟨rfl, HB.out⟩
    · have HZ := hide (sgZ_div hz)
      have hgn := HZ.out.2.2
      go_enter Try.func21, Try.ntmps21
      go_wp2_with fail
      generalize w.alloc (.cells #[.int .i64 a, .int .i64 0] 23) = w0 at *
      refine (common_any a 0 _ ha ha' hb hb').mono ?_
      rintro e w1 ⟨rfl, hb1⟩
      replace HX := hide (HX.out.step hb1)
      replace HB := hide (HB.out.trans (hb1.mono HB.out.size))
      clear hb1
      have c0 := HX.out.cell0
      have c1 := HX.out.cell1
      obtain ⟨g, hg⟩ : ∃ g, g = gI a 0 := ⟨_, rfl⟩
      have HG := hide hg
      rw [← hg] at hg0 hg1 hgn HZ ⊢
      clear hg
      go_wp2
      go_quiet (fail)
      go_wp2
      go_ret3
      refine ⟨?_, below_drewN HB.out _⟩
      rw [← HZ.out.1, ← HG.out]
      exact three_eq rfl (by first | rfl | exact wrap_td a g (by omega) (by omega)) rfl
  · rw [show bUV a b = (bU a b, bV a b) from if_pos h0]
    exact rbez_any a b w ha ha' hb hb' h0

set_option maxRecDepth 100000 in
set_option maxHeartbeats 1000000 in
theorem bez_out (a b : Int) (w : World) (h : inB a b = false) :
    Calls Try.prog 20 #[.agg #[.int .i64 a, .int .i64 b]] w fun e w' => e = .returned (.tuple #[.int .i64 0, .int .i64 0, .int .i64 0, .int .i64 2]) ∧ Below w.heap.size w w' := by
  have HB := hide (below_alloc w (.cells #[.int .i64 a, .int .i64 b] 23))
  go_enter Try.func20, Try.ntmps20
  go_wp2_with fail
  generalize w.alloc (.cells #[.int .i64 a, .int .i64 b] 23) = w0 at *
  refine (in_any a b _).mono ?_
  rintro e w1 ⟨rfl, hb1⟩
  replace HB := hide (HB.out.trans (hb1.mono HB.out.size))
  rw [h]
  clear hb1
  go_wp2
  try simp only [Exit.inBlock, Exit.then]
  refine bodyPost_ret (results_tmp4 rfl _ _ _) rfl ?_
  exact ⟨rfl, HB.out⟩

set_option maxRecDepth 100000 in
set_option maxHeartbeats 1000000 in
theorem bez_in (a b : Int) (w : World) (h : inB a b = true) :
    Calls Try.prog 20 #[.agg #[.int .i64 a, .int .i64 b]] w fun e w' => e = .returned (.tuple #[.int .i64 (gI a b), .int .i64 (bUV a b).1, .int .i64 (bUV a b).2, .int .i64 0]) ∧ Below w.heap.size w w' := by
  obtain ⟨⟨ha, ha'⟩, hb, hb'⟩ := in_yes h
  have HX := hide (Box2.new w 23 (.int .i64 a) (.int .i64 b))
  have HB := hide (below_alloc w (.cells #[.int .i64 a, .int .i64 b] 23))
  have HU : Hid (bUV a b = if b ≠ 0 then (bU a b, bV a b) else (sgZ a, 0)) := rfl
  have HS : Hid (sgZ a = if a < 0 then -1 else if 0 < a then 1 else 0) := rfl
  generalize bUV a b = uv at *
  go_enter Try.func20, Try.ntmps20
  go_wp2_with fail
  generalize w.alloc (.cells #[.int .i64 a, .int .i64 b] 23) = w0 at *
  refine (in_any a b _).mono ?_
  rintro e w1 ⟨rfl, hb1⟩
  replace HX := hide (HX.out.step hb1)
  replace HB := hide (HB.out.trans (hb1.mono HB.out.size))
  rw [h]
  clear hb1
  have c0 := HX.out.cell0
  have c1 := HX.out.cell1
  go_wp2_with fail
  refine (divisor_any a b _ (by omega) (by omega) (by omega) (by omega) (by omega)).mono ?_
  rintro e w2 ⟨rfl, hb1⟩
  replace HX := hide (HX.out.step hb1)
  replace HB := hide (HB.out.trans (hb1.mono HB.out.size))
  clear hb1 c0 c1
  have c0 := HX.out.cell0
  have c1 := HX.out.cell1
  by_cases h0 : b = 0
  · rw [if_neg (by simp [h0])] at HU
    subst h0
    by_cases hn : a < 0
    · rw [if_pos hn] at HS
      rw [HS.out] at HU
      go_wp2
      try simp only [Exit.inBlock, Exit.then]
      refine bodyPost_ret (results_tmp4 rfl _ _ _) rfl ?_
      rw [HU.out]
      exact ⟨rfl, HB.out⟩
    · rw [if_neg hn] at HS
      by_cases hp : 0 < a
      · rw [if_pos hp] at HS
        rw [HS.out] at HU
        go_wp2
        try simp only [Exit.inBlock, Exit.then]
        refine bodyPost_ret (results_tmp4 rfl _ _ _) rfl ?_
        rw [HU.out]
        exact ⟨rfl, HB.out⟩
      · rw [if_neg hp] at HS
        rw [HS.out] at HU
        have hz : a = 0 := by omega
        subst hz
        rw [show gI 0 0 = 0 from rfl]
        go_wp2
        try simp only [Exit.inBlock, Exit.then]
        refine bodyPost_ret (results_tmp4 rfl _ _ _) rfl ?_
        rw [HU.out]
        exact ⟨rfl, HB.out⟩
  · rw [if_pos h0] at HU
    go_wp2_with fail
    refine (least_any a b _ ha ha' hb hb' h0).mono ?_
    rintro e w3 ⟨rfl, hb1⟩
    replace HB := hide (HB.out.trans (hb1.mono HB.out.size))
    clear hb1 c0 c1 HX
    go_wp2
    try simp only [Exit.inBlock, Exit.then]
    refine bodyPost_ret (results_tmp4 rfl _ _ _) rfl ?_
    rw [HU.out]
    exact ⟨rfl, HB.out⟩
end Go.Proofs.Ytpckbkiggjcblaa
