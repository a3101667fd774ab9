/- limb.DivMod, limb.DivSmall and limb.Gcd, of all numbers. -/
import Derived.Test.YtjceiakgedkmcaaSeg
import Derived.Test.YtjceiakgedkmcaaLong
import Derived.Test.YtjceiakgedkmcaaTakeAway
import Derived.Test.YtjceiakgedkmcaaGuess
import Derived.RegionTactic
import Derived.Test.YtjceiakgedkmcaaDivMod
import Derived.Test.YtjceiakgedkmcaaLaw
namespace Go.Proofs.Ytjceiakgedkmcaa
open Go.RowKit

/-- a limb of a quotient by 2^s hangs on two limbs alone -/
theorem shr_two (a b c s : Nat) (hs : s ≤ 32) (ha : a < BB) : (a + BB * (b + BB * c)) / 2 ^ s = (b * BB + a) / 2 ^ s % BB + BB * ((b + BB * c) / 2 ^ s) := by
  obtain ⟨r, hr⟩ : ∃ r, BB = 2 ^ s * r := ⟨2 ^ (32 - s), by rw [← Nat.pow_add, show s + (32 - s) = 32 from by omega]; rfl⟩
  have hp : 0 < 2 ^ s := Nat.two_pow_pos s
  generalize 2 ^ s = p at hr hp ⊢
  have hrp : 0 < r := by
    rcases Nat.eq_zero_or_pos r with h | h
    · rw [h, Nat.mul_zero] at hr; exact absurd hr (by decide)
    · exact h
  generalize hn : b + BB * c = n
  -- both sides by the division of n
  have e1 : a + BB * n = a + p * (r * n) := by rw [hr, Nat.mul_assoc]
  rw [e1, Nat.add_mul_div_left _ _ hp]
  have e2 : b * BB + a = a + p * (r * b) := by rw [hr, Nat.add_comm, Nat.mul_comm b, Nat.mul_assoc]
  rw [e2, Nat.add_mul_div_left _ _ hp]
  -- r n = r b + r BB c ; BB (n / p) = r p (n / p)
  have hdm := Nat.div_add_mod n p
  have hbp : n % p = b % p := by rw [← hn, hr, Nat.mul_assoc, Nat.add_mul_mod_self_left]
  have hbd := Nat.div_add_mod b p
  have ha2 : a / p < r := by rw [Nat.div_lt_iff_lt_mul hp, Nat.mul_comm, ← hr]; exact ha
  have hmod : (a / p + r * b) % BB = a / p + r * (b % p) := by
    have e3 : a / p + r * b = (a / p + r * (b % p)) + BB * (b / p) := by
      rw [hr, Nat.mul_comm p r, Nat.mul_assoc, Nat.add_assoc, ← Nat.mul_add, Nat.add_comm (b % p), hbd]
    rw [e3, Nat.add_mul_mod_self_left]
    refine Nat.mod_eq_of_lt ?_
    have h1 : b % p < p := Nat.mod_lt _ hp
    have h2 : r * (b % p + 1) ≤ r * p := Nat.mul_le_mul_left _ h1
    rw [Nat.mul_add, Nat.mul_one, Nat.mul_comm r p, ← hr] at h2
    omega
  rw [hmod, hr, Nat.mul_comm p r, Nat.mul_assoc, Nat.add_assoc, ← Nat.mul_add, Nat.add_comm (b % p), ← hbp, hdm]

theorem drop_over (xs : List Nat) (k : Nat) (h : xs.length ≤ k) : val (xs.drop k) = 0 := by rw [List.drop_eq_nil_of_le h]; rfl

theorem drop_val_any (xs : List Nat) (k : Nat) : val (xs.drop k) = lm xs k + BB * val (xs.drop (k + 1)) := by
  by_cases h : k < xs.length
  · exact drop_val xs k h
  · rw [drop_over xs k (by omega), drop_over xs (k + 1) (by omega), lm_over xs k (by omega)]; rfl

/-- shifted down by s bits, k limbs to go -/
structure ShrAt (xs : List Nat) (s k b : Nat) (A : List Nat) : Prop where
  len : A.length = xs.length - k
  ok : Ok A
  both : b % BB = lm xs k
  sum : val A = val (xs.drop k) / 2 ^ s

theorem ShrAt.start (xs : List Nat) (s : Nat) : ShrAt xs s xs.length 0 [] := ⟨by simp, Ok.nil, by rw [lm_over _ _ (Nat.le_refl _)]; rfl, by rw [drop_over _ _ (Nat.le_refl _)]; simp [val]⟩

theorem ShrAt.step {xs : List Nat} {s k b : Nat} {A : List Nat} (h : ShrAt xs s (k + 1) b A) (hx : Ok xs) (hs : s ≤ 32) (hk : k < xs.length) :
    ShrAt xs s k (b % BB * BB + lm xs k) ((b % BB * BB + lm xs k) / 2 ^ s % BB :: A) := by
  refine ⟨by rw [List.length_cons, h.len]; omega, Ok.cons (Nat.mod_lt _ BB_pos) h.ok, ?_, ?_⟩
  · rw [Nat.add_comm, Nat.mul_comm, Nat.add_mul_mod_self_left]; exact Nat.mod_eq_of_lt (hx.at k)
  · simp only [val]
    rw [h.both, h.sum, drop_val_any xs k, drop_val_any xs (k + 1), shr_two _ _ _ s hs (hx.at k)]

theorem wrap_up (b : Nat) : IntKind.u64.wrap ((b : Int) * 4294967296) = ((b % BB * BB : Nat) : Int) := by
  rw [IntKind.wrap_u64]; unfold BB; omega
theorem or_up (b x : Nat) (hx : x < 4294967296) : bits .or .u64 (IntKind.u64.wrap ((b : Int) * 4294967296)) (x : Int) = ((b % BB * BB + x : Nat) : Int) := by
  have h : b % BB < 4294967296 := Nat.mod_lt _ BB_pos
  have e : IntKind.u64.wrap ((b : Int) * 4294967296) = ((b % BB : Nat) : Int) * 4294967296 := by rw [wrap_up]; unfold BB; omega
  rw [e, or_word (b % BB) x h hx]

theorem lim_drop (xs : List Nat) (k : Nat) : val xs / BB ^ k = val (xs.drop k) ∨ ¬ Ok xs := by
  by_cases h : Ok xs
  · left
    by_cases hk : k ≤ xs.length
    · have e : val xs = val (xs.take k) + BB ^ k * val (xs.drop k) := by
        have := val_append (xs.take k) (xs.drop k)
        rw [List.take_append_drop, List.length_take, Nat.min_eq_left hk] at this; exact this
      have hl := val_lt (h.take k)
      rw [List.length_take, Nat.min_eq_left hk] at hl
      rw [e, Nat.add_mul_div_left _ _ (Nat.pow_pos BB_pos), Nat.div_eq_of_lt hl, Nat.zero_add]
    · rw [drop_over xs k (by omega), Nat.div_eq_of_lt (Nat.lt_of_lt_of_le (val_lt h) (Nat.pow_le_pow_right BB_pos (by omega)))]
  · exact .inr h

theorem shr_val (xs : List Nat) (n : Nat) (h : Ok xs) : val xs / 2 ^ n = val (xs.drop (n / 32)) / 2 ^ (n % 32) := by
  have e : (2 : Nat) ^ n = BB ^ (n / 32) * 2 ^ (n % 32) := by
    rw [show BB = 2 ^ 32 from rfl, ← Nat.pow_mul, ← Nat.pow_add, Nat.div_add_mod]
  rcases lim_drop xs (n / 32) with h1 | h1
  · rw [e, ← Nat.div_div_eq_div_mul, h1]
  · exact absurd h h1

theorem rep_set (k x : Nat) (A : List Nat) : (List.replicate (k + 1) 0 ++ A).set k x = List.replicate k 0 ++ (x :: A) := by
  induction k with
  | zero => rfl
  | succ k ih => rw [List.replicate_succ, List.cons_append, List.set_cons_succ, ih, List.replicate_succ, List.cons_append]

theorem shr_next {w wr : World} {g s k b : Nat} {M A : List Nat} {t r : Int} (hat : ShrAt M s (k + 1) b A) (hx : Ok M) (hs : s ≤ 32) (hk : k < M.length) (hg : w.heap.size ≤ g)
    (hrow : Row wr w.heap.size g M.length (List.replicate (k + 1) 0 ++ A)) (hbel : Below w.heap.size w wr) (ht : t = ((b % BB * BB + lm M k : Nat) : Int)) (hr : r = t / 2 ^ s % 4294967296) :
    ∃ (k' b' : Nat) (A' : List Nat), k' ≤ M.length ∧ Value.int .i64 (↑k - 1) = .int .i64 ((k' : Int) - 1) ∧ Value.int .u64 t = .int .u64 b' ∧ ShrAt M s k' b' A' ∧
      Row (wr.setCell ⟨g, k, none⟩ (.int .u32 r)) w.heap.size g M.length (List.replicate k' 0 ++ A') ∧ Below w.heap.size w (wr.setCell ⟨g, k, none⟩ (.int .u32 r)) := by
  have e2 : r = (((b % BB * BB + lm M k) / 2 ^ s % BB : Nat) : Int) := by
    rw [hr, ht, Int.natCast_emod, Int.natCast_ediv, Int.natCast_pow]; rfl
  refine ⟨k, _, _, by omega, rfl, by rw [ht], hat.step hx hs hk, ?_, hbel.setCell hg _⟩
  rw [e2]
  have := hrow.set k ((b % BB * BB + lm M k) / 2 ^ s % BB)
  rw [rep_set] at this
  exact this

set_option maxRecDepth 100000 in
set_option maxHeartbeats 1000000 in
theorem shr_any (v : Value) (xs : List Nat) (n : Nat) (w : World) (h : Nums w v xs) (hn : n ≤ 9223372036854775807) (hlen : xs.length ≤ 2000000000) :
    Calls Try.prog 112 #[v, .int .i64 n] w fun e w' => ∃ v', e = .returned (.tuple #[v', .int .i64 0]) ∧ Nums w' v' (lim (val xs / 2 ^ n)) ∧ Below w.heap.size w w' := by
  obtain ⟨i0, hi, hz0, hz1, hz2⟩ := info_parts Try.info78
  have le1 := lim_val_length h.ok
  have HV := hide (val_lim (val xs))
  have HSV := hide (shr_val (lim (val xs)) n (ok_lim _))
  have HOKL := hide (ok_lim (val xs))
  go_enter Try.func112, Try.ntmps112
  go_wp2_with fail
  refine (trim_any v xs _ h).mono ?_
  rintro e w1 ⟨v1, rfl, rfl, hN1, _⟩
  clear h
  obtain ⟨ho1, a1, c1, rfl, hl1, hm1, hc1⟩ := hN1
  have HC := hide hc1
  clear hc1 ho1
  unfold maxLen at hm1
  generalize lim (val xs) = L at *
  by_cases hs : L.length ≤ n / 32
  · have hsI : (L.length : Int) ≤ (n : Int) / 32 := by omega
    go_wp2
    go_ret2
    refine ⟨.slice none 0 0, rfl, ?_, Below.refl _ _⟩
    have e0 : val xs / 2 ^ n = 0 := by rw [← HV.out, HSV.out, drop_over L _ hs]; simp
    rw [e0, lim_zero]
    exact Nums.nil_mk _ _ _ (Nat.zero_le _)
  · have hsI : ¬ (L.length : Int) ≤ (n : Int) / 32 := by omega
    obtain ⟨b, off, rfl, hx⟩ := HC.out (ne_nil (k := n / 32) (by omega))
    have HX := hide hx
    clear hx HC
    go_wp2_with (at_make; refine wpList_make_full _ rfl _ _ 23 rfl w.heap.size 78 i0 (.int .u32 0) 1 Try.underlying23 hi hz0 hz1 _ _ _ _ (L.length - n / 32) rfl rfl ?_ ?_ ?_ ?_ (Nat.le_refl _) ?_)
    all_goals try (first | rfl | omega)
    all_goals try (rw [hz2]; omega)
    all_goals try (unfold maxLen; omega)
    intro w1 hown hgrow
    have hbel : Below w.heap.size w w1 := (Below.refl _ _).grown hgrow (Nat.le_refl _) (fun k hk => by simp at hk)
    have hrow : Row w1 w.heap.size w.heap.size (L.length - n / 32) (fil [] (L.length - n / 32)) := by unfold Row; rw [← made_fil]; exact hown
    clear hown hgrow
    go_wp2
    have HML : Hid ((L.drop (n / 32)).length = L.length - n / 32) := List.length_drop
    have HLM : Hid (∀ i, lm (L.drop (n / 32)) i = lm L (n / 32 + i)) := fun i => lm_drop _ _ _
    have HOM := hide (HOKL.out.drop (n / 32))
    have hcm : ∀ i, i < (L.drop (n / 32)).length → w.cell? ⟨b, off + n / 32 + i, none⟩ = some (.int .u32 (lm (L.drop (n / 32)) i : Nat)) := by
      intro i hi'
      rw [HML.out] at hi'
      rw [HLM.out, Nat.add_assoc]
      exact HX.out _ (by omega)
    rw [← HML.out] at hrow ⊢
    have HCM := hide hcm
    have hmb : (L.drop (n / 32)).length ≤ 2000000000 := by rw [HML.out]; omega
    clear hcm HML HLM HX
    generalize L.drop (n / 32) = M at *
    obtain ⟨s, hs'⟩ : ∃ s, s = n % 32 := ⟨_, rfl⟩
    have HS := hide hs'
    have hs32 : s ≤ 32 := by omega
    have hsn : (s : Int) = (n : Int) % 32 := by omega
    clear hs'
    go_loopw [7, 8] (fun bv iv wr => ∃ (k b : Nat) (A : List Nat), k ≤ M.length ∧ iv = .int .i64 ((k : Int) - 1) ∧ bv = .int .u64 b ∧ ShrAt M s k b A ∧ Row wr w.heap.size w.heap.size M.length (List.replicate k 0 ++ A) ∧ Below w.heap.size w wr) (fun _ iv _ => (intOf iv + 1).toNat)
    case atStart => exact ⟨M.length, 0, [], Nat.le_refl _, by go_num, rfl, ShrAt.start _ _, by simpa [fil] using hrow, hbel⟩
    case round =>
      clear hrow hbel
      obtain ⟨k, bo, A, hk, rfl, rfl, hat, hrow, hbel⟩ := hrel
      cases k with
      | zero =>
        rw [List.replicate_zero, List.nil_append] at hrow
        have hal : A.length = M.length := by rw [hat.len]; omega
        have HN := hide (hrow.nums hal hat.ok)
        have HVA : Hid (val A = val M / 2 ^ s) := by have := hat.sum; rw [List.drop_zero] at this; exact this
        have HB := hide hbel
        clear hrow hbel hat hal
        go_wp2_with fail
        refine (trim_any _ _ _ HN.out).mono ?_
        rintro e w5 ⟨v5, rfl, rfl, hN5, _⟩
        go_wp2
        go_ret2
        refine ⟨v5, rfl, ?_, HB.out⟩
        have e0 : val xs / 2 ^ n = val A := by rw [← HV.out, HSV.out, HVA.out, HS.out]
        rw [e0]; exact hN5
      | succ k =>
        rw [show (((k + 1 : Nat) : Int) - 1) = (k : Int) from by omega]
        have hxb := HOM.out.at k
        have hxc := (hbel.cell (World.block_lt_of_cell? w _ (HCM.out k (by omega)))).trans (HCM.out k (by omega))
        unfold BB at hxb
        have hf := hrow.free k
        have hcl := hrow.cell (by rw [List.length_append, List.length_replicate, hat.len]; omega) k (by omega)
        have hor := or_up bo (lm M k) hxb
        have HAT := hide hat
        have HR := hide hrow
        have HB := hide hbel
        clear hat hrow hbel
        go_wp2
        refine ⟨shr_next HAT.out HOM.out hs32 (by omega) (Nat.le_refl _) HR.out HB.out (by rw [Int.natCast_add, Int.natCast_mul, Int.natCast_emod]) (by rw [HS.out]), ?_⟩
        simp [intOf]
end Go.Proofs.Ytjceiakgedkmcaa

namespace Go.Proofs.Ytjceiakgedkmcaa
open Go.RowKit

theorem run_make32 (n : Nat) (hn : n ≤ 4000000000) (kn : Int) (e : kn = (n : Int)) (w : World) :
    (Instr.makeSlice 23 (.int .i64 kn) (.int .i64 kn)).run Try.prog w = .ok (.slice (some ⟨w.heap.size, 0, none⟩) n n) (w.alloc (.cells (ints (fil [] n)).toArray 78)) := by
  obtain ⟨i0, hi, hz0, hz1, hz2⟩ := info_parts Try.info78
  subst e
  have hr := run_make (P := Try.prog) w 23 78 i0 (.int .u32 0) Try.underlying23 hi hz0 .i64 .i64 n n (by omega) (Int.le_refl _) (by rw [hz2]; omega) (by omega)
  rw [hr]
  simp only [Int.toNat_natCast, hz1, Nat.mul_one]
  rw [← made_fil]
  rfl

theorem seg_new (w : World) (n : Nat) (hn : n ≤ 4000000000) : Seg (w.alloc (.cells (ints (fil [] n)).toArray 78)) 0 w.heap.size n n (fil [] n) := by
  refine ⟨?_, by simp [fil]⟩
  have := World.ownsRow_lit (base := 0) (e := 78) (size := 1) w (ints (fil [] n)).toArray n (Nat.zero_le _) (by unfold maxLen; omega) (by simp [ints, fil])
  show World.ownsRow _ _ _ _ _ _ _
  simpa using this

theorem two_rows (w : World) (m n : Nat) (hm : m ≤ 4000000000) (hn : n ≤ 4000000000) :
    ∃ W0, W0 = ((w.alloc (.cells (ints (fil [] m)).toArray 78)).alloc (.cells (ints (fil [] n)).toArray 78)).drew ∧ Seg W0 0 w.heap.size m m (fil [] m) ∧ Seg W0 0 (w.heap.size + 1) n n (fil [] n) ∧ Below w.heap.size w W0 := by
  refine ⟨_, rfl, ?_, ?_, ?_⟩
  · exact ((seg_new w m hm).kept (row := none) (World.grownBy_alloc _ (.cells (ints (fil [] n)).toArray 78) _) (by simp) : Seg _ 0 _ _ _ _)
  · have := seg_new (w.alloc (.cells (ints (fil [] m)).toArray 78)) n hn
    rw [World.size_alloc] at this
    exact this
  · exact (((below_alloc w _).trans ((below_alloc _ _).mono (by simp))).drew)

theorem apart_old {w : World} {b off n c g : Nat} {xs : List Nat} (hb : b < w.heap.size) (hg : w.heap.size ≤ g) : Apart (.slice (some ⟨b, off, none⟩) n c) xs g := by
  intro _ ad n' c' he
  simp only [Value.slice.injEq, Option.some.injEq] at he
  obtain ⟨rfl, _, _⟩ := he
  show b ≠ g
  omega

theorem below_gb {w a b : World} {g : Nat} (h : Below w.heap.size w a) (hg : a.grownBy b (some g)) (hge : w.heap.size ≤ g) : Below w.heap.size w b :=
  h.grown hg h.size (fun k e => by cases e; exact hge)

theorem split3 (R : List Nat) (j n : Nat) (h : j + n ≤ R.length) : ∃ R1 P R2, R = R1 ++ (P ++ R2) ∧ R1.length = j ∧ P.length = n :=
  ⟨R.take j, (R.drop j).take n, (R.drop j).drop n, by rw [List.take_append_drop, List.take_append_drop], by rw [List.length_take]; omega, by rw [List.length_take, List.length_drop]; omega⟩

theorem seg_nums {w : World} {base g N cap : Nat} {R : List Nat} (h : Seg w base g N cap R) (ho : Ok R) : Nums w (.slice (some ⟨g, 0, none⟩) N cap) R := h.1.nums h.2 ho

theorem nums_kept {w w' : World} {b off n c : Nat} {xs : List Nat} {row : Option Nat} (h : Nums w (.slice (some ⟨b, off, none⟩) n c) xs) (hg : w.grownBy w' row) (hne : some b ≠ row) : Nums w' (.slice (some ⟨b, off, none⟩) n c) xs := by
  obtain ⟨ho, a, cap, he, h1, h2, h3⟩ := h
  refine ⟨ho, a, cap, he, h1, h2, fun hx => ?_⟩
  obtain ⟨b', off', ha, hc⟩ := h3 hx
  simp only [Value.slice.injEq] at he
  obtain ⟨rfl, rfl, rfl⟩ := he
  simp only [Option.some.injEq, Addr.mk.injEq, and_true] at ha
  obtain ⟨rfl, rfl⟩ := ha
  exact ⟨b, off, rfl, fun i hi => hg.cell (hc i hi) hne⟩

theorem Seg.below {w w' : World} {base g N cap : Nat} {R : List Nat} (h : Seg w base g N cap R) (hb : Below w.heap.size w w') : Seg w' base g N cap R :=
  h.kept (row := none) ⟨hb.os, hb.tape, hb.output, hb.size, fun k hk _ => hb.block k hk⟩ (by simp)

theorem nums_cells {w : World} {b off n c : Nat} {xs : List Nat} (h : Nums w (.slice (some ⟨b, off, none⟩) n c) xs) : ∀ i, i < xs.length → w.cell? ⟨b, off + i, none⟩ = some (.int .u32 (lm xs i : Nat)) := by
  obtain ⟨_, a, cap, he, _, _, h3⟩ := h
  simp only [Value.slice.injEq] at he
  obtain ⟨rfl, _, _⟩ := he
  intro i hi
  obtain ⟨b', off', ha, hc⟩ := h3 (ne_nil hi)
  simp only [Option.some.injEq, Addr.mk.injEq, and_true] at ha
  obtain ⟨rfl, rfl⟩ := ha
  exact hc i hi

theorem gb_one (w : World) (g k : Nat) (u : Value) : w.grownBy (w.setCell ⟨g, k, none⟩ u) (some g) := gb_set (World.grownBy.refl w (some g)) k u

theorem rep_lm (j x : Nat) (A : List Nat) : lm (List.replicate j 0 ++ (x :: A)) j = x := by
  rw [lm_append_right _ _ _ (by simp), List.length_replicate, Nat.sub_self]; rfl

theorem apart_ne {b off n c g : Nat} {xs : List Nat} (h : b ≠ g) : Apart (.slice (some ⟨b, off, none⟩) n c) xs g := by
  intro _ ad n' c' he
  simp only [Value.slice.injEq, Option.some.injEq] at he
  obtain ⟨rfl, _, _⟩ := he
  exact h

theorem rep_set2 (j x y : Nat) (A : List Nat) : (List.replicate j 0 ++ (x :: A)).set j y = List.replicate j 0 ++ (y :: A) := by
  rw [List.set_append_right _ _ (by simp), List.length_replicate, Nat.sub_self]; rfl

set_option maxRecDepth 100000 in
set_option maxHeartbeats 8000000 in
theorem divideLong_any (va vb : Value) (xs ys : List Nat) (k : Nat) (w : World) (ha : Nums w va xs) (hb : Nums w vb ys) (hk : ys.length = k + 2) (htop : 0 < lm ys (k + 1)) (hle : ys.length ≤ xs.length) (hlen : xs.length ≤ 1000000000) :
    Calls Try.prog 100 #[va, vb] w fun e w' => ∃ q r, e = .returned (.tuple #[q, r]) ∧ Nums w' q (lim (val xs / val ys)) ∧ Nums w' r (lim (val xs % val ys)) ∧ Below w.heap.size w w' := by
  have HA := hide ha
  have HB := hide hb
  have HK := hide hk
  have HTOP := hide htop
  have hk1 : k + 2 ≤ ys.length := by omega
  have hk2 : ys.length ≤ k + 2 := by omega
  obtain ⟨_, a1, c1, rfl, hl1, hm1, hc1⟩ := ha
  obtain ⟨oy, a2, c2, rfl, hl2, hm2, hc2⟩ := hb
  obtain ⟨b2, off2, rfl, hy⟩ := hc2 (ne_nil (k := k + 1) (by omega))
  obtain ⟨b1, off1, rfl, hx⟩ := hc1 (ne_nil (k := k + 1) (by omega))
  have hyt := hy (k + 1) (by omega)
  have hytb := oy.at (k + 1)
  unfold BB at hytb
  have hb1 : b1 < w.heap.size := World.block_lt_of_cell? w _ (hx 0 (by omega))
  have hb2 : b2 < w.heap.size := World.block_lt_of_cell? w _ hyt
  have HX := hide hx
  have HY := hide hy
  have HOY := hide oy
  clear hx hy hc1 hc2 hk htop oy
  unfold maxLen at hm1 hm2
  have hidx : ys.length - 1 = k + 1 := by omega
  go_enter Try.func100, Try.ntmps100
  go_wp2
  go_step3
  go_wp2_with fail
  refine (lead_any (lm ys (k + 1)) _ hytb HTOP.out).mono ?_
  rintro e w1 ⟨s, rfl, hs, hs1, hs2, rfl⟩
  have HS1 := hide hs1
  have HS2 := hide hs2
  clear hs1 hs2 hyt
  have hmk1 := fun w => run_make32 (xs.length + 1) (by omega) ((xs.length : Int) + 1) (by omega) w
  have hmk2 := fun w => run_make32 (ys.length + 1) (by omega) ((ys.length : Int) + 1) (by omega) w
  go_wp2
  go_region
  all_goals go_wp2_with fail
  all_goals first
    | (obtain ⟨W0, hW, sr, sb, hB0⟩ := two_rows w (xs.length + 1) (ys.length + 1) (by omega) (by omega); rw [← hW]; obtain ⟨gb, hgb⟩ : ∃ g, g = w.heap.size + 1 := ⟨_, rfl⟩; rw [← hgb] at sb ⊢; obtain ⟨gr, hgr⟩ : ∃ g, g = w.heap.size := ⟨_, rfl⟩; rw [← hgr] at sr ⊢)
    | (obtain ⟨W0, hW, sb, sr, hB0⟩ := two_rows w (ys.length + 1) (xs.length + 1) (by omega) (by omega); rw [← hW]; obtain ⟨gr, hgr⟩ : ∃ g, g = w.heap.size + 1 := ⟨_, rfl⟩; rw [← hgr] at sr ⊢; obtain ⟨gb, hgb⟩ : ∃ g, g = w.heap.size := ⟨_, rfl⟩; rw [← hgb] at sb ⊢)
  all_goals
    have hne : gr ≠ gb := by omega
    have hgr1 : w.heap.size ≤ gr := by omega
    have hgb1 : w.heap.size ≤ gb := by omega
    clear hW hgb hgr hmk1 hmk2
    refine (shiftInto_any _ xs 0 gr (xs.length + 1) (xs.length + 1) _ s [] (fil [] (xs.length + 1)) [] _ (HA.out.below hB0) (apart_old hb1 hgr1) hs (by simpa using sr) (by simp [fil]) (by omega)).mono ?_
    rintro e W1 ⟨rfl, R, hRl, oR, hRv, hsr, hg1⟩
    rw [List.nil_append, List.append_nil] at hsr
    have sb1 := sb.kept hg1 (by simp; omega)
    have hB1 := below_gb hB0 hg1 hgr1
    clear sb sr hg1 hB0
    go_wp2_with fail
    refine (shiftInto_any _ ys 0 gb (ys.length + 1) (ys.length + 1) _ s [] (fil [] (ys.length + 1)) [] _ (HB.out.below hB1) (apart_old hb2 hgb1) hs (by simpa using sb1) (by simp [fil]) (by omega)).mono ?_
    rintro e W2 ⟨rfl, D0, hDl, oD0, hDv, hsb, hg2⟩
    rw [List.nil_append, List.append_nil] at hsb
    have sr2 := hsr.kept hg2 (by simp; omega)
    have hB2 := below_gb hB1 hg2 hgb1
    clear hsr sb1 hg2 hB1
    have hmk3 := fun w => run_make32 (xs.length - ys.length + 1) (by omega) ((xs.length : Int) - (ys.length : Int) + 1) (by omega) w
    obtain ⟨hz, hDv2, hDt⟩ := shifted_top (k := k + 1) (s := s) (by omega) HOY.out oD0 (by omega) hDv HS1.out HS2.out
    have hys : ys.length = k + 1 + 1 := by omega
    have hDN := (seg_nums hsb oD0).take ys.length (by omega)
    rw [← hys] at hDv2 hDt
    have hDlen : (D0.take ys.length).length = ys.length := by rw [List.length_take]; omega
    have oD := oD0.take ys.length
    generalize D0.take ys.length = D at hDv2 hDt hDN hDlen oD
    obtain ⟨T, hT⟩ : ∃ T, T = xs.length - ys.length + 1 := ⟨_, rfl⟩
    have hT1 : T + ys.length ≤ xs.length + 1 := by omega
    have hT2 : xs.length + 1 ≤ T + ys.length := by omega
    have hbound := long_bound (s := s) (val_lt HA.out.ok) hle hs (by have := long_top (k := k + 1) (D := D) (by omega) hDt; rw [hys]; exact this)
    rw [← hT] at hmk3 hbound
    have hgq : gr < W2.heap.size := sr2.lt
    have hgbW : gb < W2.heap.size := hsb.lt
    have hstart := LongAt.start (D := D) oR hRv hbound
    have hQ := seg_new W2 T (by omega)
    have sr3 := sr2.kept (row := none) (World.grownBy_alloc W2 (.cells (ints (fil [] T)).toArray 78) none) (by simp)
    have hDN3 := hDN.below (below_alloc W2 (.cells (ints (fil [] T)).toArray 78))
    have hB3 := hB2.alloc hB2.size (.cells (ints (fil [] T)).toArray 78)
    have HPACK := hide (And.intro hQ (And.intro sr3 (And.intro hDN3 (And.intro hB3 hstart))))
    have HDV := hide hDv2
    have HDT := hide hDt
    have HDL := hide hDlen
    have HOD := hide oD
    have hqs : W2.heap.size ≤ W2.heap.size := Nat.le_refl _
    have hW2 : w.heap.size ≤ W2.heap.size := hB2.size
    clear hz hDv hDv2 hDt hDN hDlen oD hbound hstart hQ sr3 hDN3 hB3 hsb sr2 hB2 oD0 hDl oR hRv hys hqs D0
    have HRL := hide hRl
    clear hRl hT
    go_wp2
    go_step3
    go_wp2
    obtain ⟨gq, hgq2⟩ : ∃ g, g = W2.heap.size := ⟨_, rfl⟩
    rw [← hgq2] at HPACK hgq hgbW hW2 ⊢
    generalize W2.alloc (.cells (ints (fil [] T)).toArray 78) = W3 at HPACK ⊢
    clear hgq2 hmk3
    go_loopw [10] (fun iv wr => ∃ (J : Nat) (R Qs : List Nat), J ≤ T ∧ iv = .int .i64 ((J : Int) - 1) ∧ LongAt (val xs * 2 ^ s) D R Qs J ∧ R.length = xs.length + 1 ∧ Qs.length = T - J ∧ Seg wr 0 gr (xs.length + 1) (xs.length + 1) R ∧ Seg wr 0 gq T T (List.replicate J 0 ++ Qs) ∧ Nums wr (.slice (some ⟨gb, 0, none⟩) ys.length (ys.length + 1)) D ∧ Below w.heap.size w wr) (fun iv _ => (intOf iv + 1).toNat)
    case atStart =>
      obtain ⟨hQ, sr3, hDN3, hB3, hstart⟩ := HPACK.out
      exact ⟨T, R, [], Nat.le_refl _, by go_num, hstart, HRL.out, by simp, sr3, by simpa [fil] using hQ, hDN3, hB3⟩
    case round =>
      clear HPACK HRL
      obtain ⟨J, R', Qs, hJ, rfl, hat, hRl', hQl, hsr, hsq, hDN, hB⟩ := hrel
      cases J with
      | zero =>
        have hyp : 0 < val ys := by
          have e : val ys = val (ys.take (k + 1)) + BB ^ (k + 1) * lm ys (k + 1) := by rw [← take_succ_any, List.take_of_length_le (by omega)]
          have : 0 < BB ^ (k + 1) * lm ys (k + 1) := Nat.mul_pos (Nat.pow_pos BB_pos) HTOP.out
          omega
        have HE := hide (long_end hat HDV.out hyp)
        have hql : Qs.length = T := by rw [hQl]; omega
        rw [List.replicate_zero, List.nil_append] at hsq
        have HNR := hide (seg_nums hsr hat.okR)
        have HNQ := hide (seg_nums hsq hat.okQ)
        have HBW := hide hB
        have hRb : R'.length ≤ 1000000001 := by omega
        clear hat hsr hsq hDN hB hyp hql hQl
        go_wp2_with fail
        refine (shr_any _ R' s _ HNR.out (by omega) (by omega)).mono ?_
        rintro e w4 ⟨v4, rfl, hN4, hb4⟩
        rw [HE.out.2] at hN4
        have HN4 := hide hN4
        have HNQ4 := hide (HNQ.out.below hb4)
        have HB4 := hide (HBW.out.trans (hb4.mono HBW.out.size))
        clear hN4 hb4
        go_wp2_with fail
        refine (trim_any _ _ _ HNQ4.out).mono ?_
        rintro e w5 ⟨v5, rfl, rfl, hN5, _⟩
        rw [HE.out.1] at hN5
        go_wp2
        try rw [Exit.noGoto_ret]
        go_ret2
        exact ⟨_, _, rfl, hN5, HN4.out, HB4.out⟩
      | succ j =>
        rw [show (((j + 1 : Nat) : Int) - 1) = (j : Int) from by omega]
        obtain ⟨R1, P, R2, rfl, hR1, hP⟩ := split3 R' j (ys.length + 1) (by omega)
        have HAT := hide hat
        have HRL' := hide hRl'
        have HQL := hide hQl
        have HSR := hide hsr
        have HSQ := hide hsq
        have HDN := hide hDN
        have HBW := hide hB
        have HR1 := hide hR1
        have HP := hide hP
        clear hat hRl' hQl hsr hsq hDN hB hR1 hP
        have HDP : Hid (0 < val D) := by
          have := HDT.out
          have h2 : BB ^ (k + 1) * lm D (k + 1) ≤ val D := by
            have e : val D = val (D.take (k + 1)) + BB ^ (k + 1) * lm D (k + 1) := by rw [← take_succ_any, List.take_of_length_le (by have := HDL.out; omega)]
            omega
          have h3 : 0 < BB ^ (k + 1) * lm D (k + 1) := Nat.mul_pos (Nat.pow_pos BB_pos) (by omega)
          show 0 < val D
          omega
        have oP : Ok P := fun x hx => HAT.out.okR x (List.mem_append_right _ (List.mem_append_left _ hx))
        have HOP := hide oP
        have hPD := (long_parts HR1.out HP.out HDL.out HOD.out HAT.out.lt).2.2
        have HPD := hide hPD
        clear oP hPD
        go_wp2_with fail
        rw [show j + ys.length + 1 - j = ys.length + 1 from by omega]
        refine (guess_any gb 0 ys.length (ys.length + 1) gr j (ys.length + 1) (xs.length + 1 - j) k P D _ (by have := HDL.out; omega) (by have := HP.out; omega) HOD.out HOP.out (by omega) (by omega) (nums_cells HDN.out) ?_ HDT.out HPD.out (by omega)).mono ?_
        · intro i hi'
          have h1 := HP.out
          have := HSR.out.cell (j + i) (by omega)
          have h2 := mid_lm0 R1 P R2 i hi'
          rw [HR1.out] at h2
          rw [h2] at this
          exact this
        rintro e w4 ⟨g, rfl, hgB, hgg1, hgg2, hb4⟩
        have HG1 := hide hgg1
        have HG2 := hide hgg2
        have HGB : Hid (g < BB) := hgB
        unfold BB at hgB
        have sq4 := HSQ.out.below hb4
        have sr4 := HSR.out.below hb4
        have dn4 := HDN.out.below hb4
        have bl4 := HBW.out.trans (hb4.mono HBW.out.size)
        have hf4 := sq4.free j
        have hc4 := sq4.cell j (by omega)
        have sq5 := sq4.set j g (rep_set j g Qs)
        have sr5 := sr4.kept (gb_one w4 gq j (.int .u32 (g : Nat))) (by simp; omega)
        have dn5 := nums_kept dn4 (gb_one w4 gq j (.int .u32 (g : Nat))) (by simp; omega)
        have bl5 := below_gb bl4 (gb_one w4 gq j (.int .u32 (g : Nat))) (by omega)
        have HSQ5 := hide sq5
        have HSR5 := hide sr5
        have HDN5 := hide dn5
        have HBL5 := hide bl5
        clear sq4 sr4 dn4 bl4 sq5 sr5 dn5 bl5 hb4 hgg1 hgg2 HSQ HSR HDN HBW
        go_wp2_with fail
        have hta := takeAway_any (.slice (some ⟨gb, 0, none⟩) ys.length (ys.length + 1)) D 0 gr (xs.length + 1) (xs.length + 1) (xs.length + 1 - j) g R1 P R2 _ HDN5.out (apart_ne (by omega)) hgB HOP.out HSR5.out (by rw [HP.out, HDL.out])
        rw [HR1.out, HDL.out] at hta
        refine hta.mono ?_
        rintro e w6 ⟨P', b, hb, rfl, hP'l, oP', hsum, hsr6, hg6⟩
        have HSUM := hide hsum
        have HP'L := hide hP'l
        have HOP' := hide oP'
        have HSR6 := hide hsr6
        have HSQ6 := hide (HSQ5.out.kept hg6 (by simp; omega))
        have HDN6 := hide (nums_kept HDN5.out hg6 (by simp; omega))
        have HBL6 := hide (below_gb HBL5.out hg6 hgr1)
        clear hta hsum hP'l oP' hsr6 hg6 HSQ5 HSR5 HDN5 HBL5 hf4 hc4
        rcases (show b = 0 ∨ b = 1 from by omega) with rfl | rfl
        · have HTR := hide (take_right (by have := HSUM.out; rw [Nat.mul_zero, Nat.add_zero] at this; exact this) HDP.out HG1.out)
          go_wp2
          go_roundw
          case rel => exact ⟨j, R1 ++ (P' ++ R2), g :: Qs, by omega, by go_num, HAT.out.step HR1.out HP.out HDL.out HOD.out HOP'.out HTR.out.1 HTR.out.2 HDP.out, HSR6.out.2, by rw [List.length_cons, HQL.out]; omega, HSR6.out, HSQ6.out, HDN6.out, HBL6.out⟩
          case measure => simp [intOf]
        · have hgpos : 1 ≤ g := by
            rcases Nat.eq_zero_or_pos g with h0 | h0
            · exfalso
              have h1 := HSUM.out
              rw [h0, Nat.zero_mul, Nat.mul_one] at h1
              have h2 := val_lt HOP'.out
              rw [HP'L.out] at h2
              omega
            · exact h0
          go_wp2_with fail
          have hgi := giveBack_any (.slice (some ⟨gb, 0, none⟩) ys.length (ys.length + 1)) D 0 gr (xs.length + 1) (xs.length + 1) (xs.length + 1 - j) R1 P' R2 _ HDN6.out (apart_ne (by omega)) HOP'.out HSR6.out (by rw [HP'L.out, HDL.out])
          rw [HR1.out, HDL.out] at hgi
          refine hgi.mono ?_
          rintro e w7 ⟨rfl, P'', o, hP''l, oP'', hsum2, hsr7, hg7⟩
          have sq7 := HSQ6.out.kept hg7 (by simp; omega)
          have hf7 := sq7.free j
          have hc7 := sq7.cell j (by omega)
          rw [rep_lm] at hc7
          have dn7 := nums_kept HDN6.out hg7 (by simp; omega)
          have bl7 := below_gb HBL6.out hg7 hgr1
          have sq8 := sq7.set j (g - 1) (rep_set2 j g (g - 1) Qs)
          have sr8 := hsr7.kept (gb_one w7 gq j (.int .u32 ((g - 1 : Nat) : Int))) (by simp; omega)
          have dn8 := nums_kept dn7 (gb_one w7 gq j (.int .u32 ((g - 1 : Nat) : Int))) (by simp; omega)
          have bl8 := below_gb bl7 (gb_one w7 gq j (.int .u32 ((g - 1 : Nat) : Int))) (by omega)
          have hto : g = val P / val D + 1 ∧ val P'' = val P % val D := by
            refine take_over (K := BB ^ (ys.length + 1)) (o := o) (p' := val P') ?_ HDP.out HG2.out ?_ ?_ ?_ ?_
            · have := HSUM.out; rw [Nat.mul_one] at this; exact this
            · have := val_lt HOP'.out; rw [HP'L.out] at this; exact this
            · exact hsum2
            · have := val_lt oP''; rw [hP''l] at this; exact this
            · have h1 := val_lt HOD.out
              rw [HDL.out] at h1
              have : BB ^ ys.length ≤ BB ^ (ys.length + 1) := Nat.pow_le_pow_right BB_pos (by omega)
              omega
          have HTO := hide hto
          have HSQ8 := hide sq8
          have HSR8 := hide sr8
          have HDN8 := hide dn8
          have HBL8 := hide bl8
          have HOP'' := hide oP''
          have hgI : (g : Int) - 1 = ((g - 1 : Nat) : Int) := by omega
          clear hgi hsum2 hsr7 hg7 sq7 dn7 bl7 sq8 sr8 dn8 bl8 hto oP'' hP''l
          go_wp2
          go_roundw
          case rel => exact ⟨j, R1 ++ (P'' ++ R2), (g - 1) :: Qs, by omega, by go_num, HAT.out.step HR1.out HP.out HDL.out HOD.out HOP''.out (by have := HTO.out.1; omega) HTO.out.2 HDP.out, HSR8.out.2, by rw [List.length_cons, HQL.out]; omega, HSR8.out, HSQ8.out, HDN8.out, HBL8.out⟩
          case measure => simp [intOf]
end Go.Proofs.Ytjceiakgedkmcaa

namespace Go.Proofs.Ytjceiakgedkmcaa
open Go.RowKit

theorem lim_top {n : Nat} (h : 0 < n) : lm (lim n) ((lim n).length - 1) ≠ 0 := by
  refine lim_ind (p := fun n => 0 < n → lm (lim n) ((lim n).length - 1) ≠ 0) (by intro h; omega) (fun n hn ih => ?_) n h
  intro _
  rw [lim_pos hn]
  by_cases h0 : n / BB = 0
  · rw [h0, lim_zero]
    have := Nat.div_add_mod n BB
    rw [h0, Nat.mul_zero, Nat.zero_add] at this
    simp [lm]; omega
  · have := ih (Nat.pos_of_ne_zero h0)
    have hp := lim_len_pos (n := n / BB) (Nat.pos_of_ne_zero h0)
    obtain ⟨m, hm⟩ : ∃ m, (lim (n / BB)).length = m + 1 := ⟨(lim (n / BB)).length - 1, by omega⟩
    rw [hm] at this
    simp only [List.length_cons, hm, Nat.add_sub_cancel] at this ⊢
    simpa [lm] using this

set_option maxRecDepth 100000 in
set_option maxHeartbeats 1000000 in
theorem divmod_long (v1 v2 : Value) (xs ys : List Nat) (w : World) (h1 : Nums w v1 xs) (h2 : Nums w v2 ys) (b1 : xs.length ≤ 1000000000) (hlt : ¬ (lim (val xs)).length < (lim (val ys)).length) (hone : 2 ≤ (lim (val ys)).length) :
    Calls Try.prog 82 #[v1, v2] w fun e w' => ∃ q r, e = .returned (.tuple #[q, r, .int .i64 0]) ∧ Nums w' q (lim (val xs / val ys)) ∧ Nums w' r (lim (val xs % val ys)) ∧ Below w.heap.size w w' := by
  have HN2 : Hid (Nums w v2 ys) := h2
  have HB := hide (lim_val_length h1.ok)
  have HT : Hid (0 < lm (lim (val ys)) ((lim (val ys)).length - 1)) := by
    have : 0 < val ys := by
      rcases Nat.eq_zero_or_pos (val ys) with e | e
      · rw [e, lim_zero] at hone; simp at hone
      · exact e
    exact Nat.pos_of_ne_zero (lim_top this)
  have hne0 : ((((lim (val ys)).length : Nat) : Int) == 0) = false := by simp; intro h; rw [h] at hone; simp at hone
  have hne1 : ((((lim (val ys)).length : Nat) : Int) == 1) = false := by simp; omega
  go_enter Try.func82, Try.ntmps82
  go_wp2_with fail
  refine (trim_any v1 xs _ h1).mono ?_
  rintro e w1 ⟨v1', rfl, rfl, hN1, _⟩
  go_wp2_with fail
  refine (trim_any v2 ys _ HN2.out).mono ?_
  rintro e w1 ⟨v2', rfl, rfl, hN2, _⟩
  clear h1 h2 HN2
  have HN1 := hide hN1
  have HN2 := hide hN2
  obtain ⟨_, a2, c2, rfl, hl2, hm2, _⟩ := hN2
  obtain ⟨_, a1, c1, rfl, hl1, hm1, _⟩ := hN1
  unfold maxLen at hm1 hm2
  go_wp2_with fail
  refine (divideLong_any _ _ (lim (val xs)) (lim (val ys)) ((lim (val ys)).length - 2) _ HN1.out HN2.out (by omega) (by rw [show (lim (val ys)).length - 2 + 1 = (lim (val ys)).length - 1 from by omega]; exact HT.out) (by omega) (by have := HB.out; omega)).mono ?_
  rintro e w2 ⟨q, r, rfl, hq, hr, hb⟩
  rw [val_lim, val_lim] at hq hr
  have HQ := hide hq
  have HR := hide hr
  clear hq hr
  go_wp2
  go_ret3
  exact ⟨_, _, rfl, HQ.out, HR.out, hb⟩

theorem divmod_any (v1 v2 : Value) (xs ys : List Nat) (w : World) (h1 : Nums w v1 xs) (h2 : Nums w v2 ys) (b1 : xs.length ≤ 1000000000) (hy : 0 < val ys) :
    Calls Try.prog 82 #[v1, v2] w fun e w' => ∃ q r, e = .returned (.tuple #[q, r, .int .i64 0]) ∧ Nums w' q (lim (val xs / val ys)) ∧ Nums w' r (lim (val xs % val ys)) ∧ Below w.heap.size w w' := by
  by_cases hlt : (lim (val xs)).length < (lim (val ys)).length
  · refine (divmod_small v1 v2 xs ys w h1 h2 b1 hlt).mono ?_
    rintro e w' ⟨r, rfl, hr, hb⟩
    have hxy := lim_len_lt hlt
    refine ⟨_, r, rfl, ?_, ?_, hb⟩
    · rw [Nat.div_eq_of_lt hxy, lim_zero]; exact Nums.nil_mk _ _ _ (Nat.zero_le _)
    · rw [Nat.mod_eq_of_lt hxy]; exact hr
  · by_cases hone : (lim (val ys)).length = 1
    · exact divmod_one v1 v2 xs ys w h1 h2 b1 hlt hone
    · exact divmod_long v1 v2 xs ys w h1 h2 b1 hlt (by have := lim_len_pos hy; omega)



set_option maxRecDepth 100000 in
set_option maxHeartbeats 1000000 in
theorem gcd_any (v1 v2 : Value) (xs ys : List Nat) (w : World) (h1 : Nums w v1 xs) (h2 : Nums w v2 ys) (b1 : xs.length ≤ 1000000000) (b2 : ys.length ≤ 1000000000) :
    Calls Try.prog 57 #[v1, v2] w fun e w' => ∃ v', e = .returned v' ∧ Nums w' v' (lim (Nat.gcd (val xs) (val ys))) ∧ Below w.heap.size w w' := by
  have HN2 := hide h2
  have HO1 := hide h1.ok
  have HO2 := hide h2.ok
  go_enter Try.func57, Try.ntmps57
  go_wp2_with fail
  refine (norm_any v1 xs _ h1 b1).mono ?_
  rintro e w1 ⟨va, rfl, _, n1, hb1⟩
  have HN2' := hide (HN2.out.below hb1)
  clear h1 h2 HN2
  go_wp2_with fail
  refine (norm_any v2 ys _ HN2'.out b2).mono ?_
  rintro e w2 ⟨vb, rfl, _, n2, hb2⟩
  have HA := hide (n1.below hb2)
  have HB := hide n2
  have HBL := hide (hb1.trans (hb2.mono hb1.size))
  clear n1 n2 hb1 hb2 HN2'
  go_wp2
  go_loopw [5, 6] (fun xv yv wr => ∃ m n : Nat, Nat.gcd m n = Nat.gcd (val xs) (val ys) ∧ (lim m).length ≤ 1000000000 ∧ (lim n).length ≤ 1000000000 ∧ Nums wr xv (lim m) ∧ Nums wr yv (lim n) ∧ Below w.heap.size w wr) (fun _ yv wr => numOf wr yv)
  case atStart =>
    have e1 := lim_val_length HO1.out
    have e2 := lim_val_length HO2.out
    exact ⟨_, _, rfl, by omega, by omega, HA.out, HB.out, HBL.out⟩
  case round =>
    obtain ⟨m, n, hg, hm1, hn1, hNm, hNn, hbel⟩ := hrel
    have HG := hide hg
    have HM := hide hNm
    have HN := hide hNn
    have HBW := hide hbel
    have HNUM := hide hNn.numOf
    obtain ⟨_, ay, cy, rfl, hly, hmy, _⟩ := hNn
    unfold maxLen at hmy
    clear hg hNm hbel
    by_cases hz : n = 0
    · subst hz
      rw [lim_zero]
      go_wp2
      go_ret
      refine ⟨_, rfl, ?_, HBW.out⟩
      rw [← HG.out, Nat.gcd_zero_right]; exact HM.out
    · have hp : 0 < (lim n).length := lim_len_pos (by omega)
      go_wp2_with fail
      refine (divmod_any _ _ (lim m) (lim n) _ HM.out HN.out hm1 (by rw [val_lim]; omega)).mono ?_
      rintro e w3 ⟨q, r, rfl, _, hr, hb3⟩
      rw [val_lim, val_lim] at hr
      have HR := hide hr
      have HNr := hide (HN.out.below hb3)
      have HB3 := hide (HBW.out.trans (hb3.mono HBW.out.size))
      clear hr hb3
      go_wp2
      go_roundw
      case rel => exact ⟨n, m % n, by rw [← HG.out, Nat.gcd_comm m n, Nat.gcd_rec n m, Nat.gcd_comm], hn1, Nat.le_trans (lim_length_le (Nat.lt_of_lt_of_le (Nat.mod_lt m (by omega)) (Nat.le_of_lt (by have := val_lt (ok_lim n); rw [val_lim] at this; exact this)))) hn1, HNr.out, HR.out, HB3.out⟩
      case measure => rw [HNUM.out, HR.out.numOf, val_lim, val_lim]; exact Nat.mod_lt _ (by omega)
end Go.Proofs.Ytjceiakgedkmcaa
