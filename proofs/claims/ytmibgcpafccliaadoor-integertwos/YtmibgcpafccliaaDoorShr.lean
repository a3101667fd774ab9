/- limb.Shr answers the whole quotient by a power of two. -/
import Derived.Test.YtmibgcpafccliaaDoorSeg
namespace Go.Proofs.YtmibgcpafccliaaDoor
open Go.RowKit

/-- a limb of a quotient by 2^s hangs on two limbs alone -/
theorem shr_two (a b c s : Nat) (hs : s ≤ 32) (ha : a < BB) : (a + BB * (b + BB * c)) / 2 ^ s = (b * BB + a) / 2 ^ s % BB + BB * ((b + BB * c) / 2 ^ s) := by
  obtain ⟨r, hr⟩ : ∃ r, BB = 2 ^ s * r := ⟨2 ^ (32 - s), by rw [← Nat.pow_add, show s + (32 - s) = 32 from by omega]; rfl⟩
  have hp : 0 < 2 ^ s := Nat.two_pow_pos s
  generalize 2 ^ s = p at hr hp ⊢
  have hrp : 0 < r := by
    rcases Nat.eq_zero_or_pos r with h | h
    · rw [h, Nat.mul_zero] at hr; exact absurd hr (by decide)
    · exact h
  generalize hn : b + BB * c = n
  -- both sides by the division of n
  have e1 : a + BB * n = a + p * (r * n) := by rw [hr, Nat.mul_assoc]
  rw [e1, Nat.add_mul_div_left _ _ hp]
  have e2 : b * BB + a = a + p * (r * b) := by rw [hr, Nat.add_comm, Nat.mul_comm b, Nat.mul_assoc]
  rw [e2, Nat.add_mul_div_left _ _ hp]
  -- r n = r b + r BB c ; BB (n / p) = r p (n / p)
  have hdm := Nat.div_add_mod n p
  have hbp : n % p = b % p := by rw [← hn, hr, Nat.mul_assoc, Nat.add_mul_mod_self_left]
  have hbd := Nat.div_add_mod b p
  have ha2 : a / p < r := by rw [Nat.div_lt_iff_lt_mul hp, Nat.mul_comm, ← hr]; exact ha
  have hmod : (a / p + r * b) % BB = a / p + r * (b % p) := by
    have e3 : a / p + r * b = (a / p + r * (b % p)) + BB * (b / p) := by
      rw [hr, Nat.mul_comm p r, Nat.mul_assoc, Nat.add_assoc, ← Nat.mul_add, Nat.add_comm (b % p), hbd]
    rw [e3, Nat.add_mul_mod_self_left]
    refine Nat.mod_eq_of_lt ?_
    have h1 : b % p < p := Nat.mod_lt _ hp
    have h2 : r * (b % p + 1) ≤ r * p := Nat.mul_le_mul_left _ h1
    rw [Nat.mul_add, Nat.mul_one, Nat.mul_comm r p, ← hr] at h2
    omega
  rw [hmod, hr, Nat.mul_comm p r, Nat.mul_assoc, Nat.add_assoc, ← Nat.mul_add, Nat.add_comm (b % p), ← hbp, hdm]

theorem drop_over (xs : List Nat) (k : Nat) (h : xs.length ≤ k) : val (xs.drop k) = 0 := by rw [List.drop_eq_nil_of_le h]; rfl

theorem drop_val_any (xs : List Nat) (k : Nat) : val (xs.drop k) = lm xs k + BB * val (xs.drop (k + 1)) := by
  by_cases h : k < xs.length
  · exact drop_val xs k h
  · rw [drop_over xs k (by omega), drop_over xs (k + 1) (by omega), lm_over xs k (by omega)]; rfl

/-- shifted down by s bits, k limbs to go -/
structure ShrAt (xs : List Nat) (s k b : Nat) (A : List Nat) : Prop where
  len : A.length = xs.length - k
  ok : Ok A
  both : b % BB = lm xs k
  sum : val A = val (xs.drop k) / 2 ^ s

theorem ShrAt.start (xs : List Nat) (s : Nat) : ShrAt xs s xs.length 0 [] := ⟨by simp, Ok.nil, by rw [lm_over _ _ (Nat.le_refl _)]; rfl, by rw [drop_over _ _ (Nat.le_refl _)]; simp [val]⟩

theorem ShrAt.step {xs : List Nat} {s k b : Nat} {A : List Nat} (h : ShrAt xs s (k + 1) b A) (hx : Ok xs) (hs : s ≤ 32) (hk : k < xs.length) :
    ShrAt xs s k (b % BB * BB + lm xs k) ((b % BB * BB + lm xs k) / 2 ^ s % BB :: A) := by
  refine ⟨by rw [List.length_cons, h.len]; omega, Ok.cons (Nat.mod_lt _ BB_pos) h.ok, ?_, ?_⟩
  · rw [Nat.add_comm, Nat.mul_comm, Nat.add_mul_mod_self_left]; exact Nat.mod_eq_of_lt (hx.at k)
  · simp only [val]
    rw [h.both, h.sum, drop_val_any xs k, drop_val_any xs (k + 1), shr_two _ _ _ s hs (hx.at k)]

theorem wrap_up (b : Nat) : IntKind.u64.wrap ((b : Int) * 4294967296) = ((b % BB * BB : Nat) : Int) := by
  rw [IntKind.wrap_u64]; unfold BB; omega
theorem or_up (b x : Nat) (hx : x < 4294967296) : bits .or .u64 (IntKind.u64.wrap ((b : Int) * 4294967296)) (x : Int) = ((b % BB * BB + x : Nat) : Int) := by
  have h : b % BB < 4294967296 := Nat.mod_lt _ BB_pos
  have e : IntKind.u64.wrap ((b : Int) * 4294967296) = ((b % BB : Nat) : Int) * 4294967296 := by rw [wrap_up]; unfold BB; omega
  rw [e, or_word (b % BB) x h hx]

theorem lim_drop (xs : List Nat) (k : Nat) : val xs / BB ^ k = val (xs.drop k) ∨ ¬ Ok xs := by
  by_cases h : Ok xs
  · left
    by_cases hk : k ≤ xs.length
    · have e : val xs = val (xs.take k) + BB ^ k * val (xs.drop k) := by
        have := val_append (xs.take k) (xs.drop k)
        rw [List.take_append_drop, List.length_take, Nat.min_eq_left hk] at this; exact this
      have hl := val_lt (h.take k)
      rw [List.length_take, Nat.min_eq_left hk] at hl
      rw [e, Nat.add_mul_div_left _ _ (Nat.pow_pos BB_pos), Nat.div_eq_of_lt hl, Nat.zero_add]
    · rw [drop_over xs k (by omega), Nat.div_eq_of_lt (Nat.lt_of_lt_of_le (val_lt h) (Nat.pow_le_pow_right BB_pos (by omega)))]
  · exact .inr h

theorem shr_val (xs : List Nat) (n : Nat) (h : Ok xs) : val xs / 2 ^ n = val (xs.drop (n / 32)) / 2 ^ (n % 32) := by
  have e : (2 : Nat) ^ n = BB ^ (n / 32) * 2 ^ (n % 32) := by
    rw [show BB = 2 ^ 32 from rfl, ← Nat.pow_mul, ← Nat.pow_add, Nat.div_add_mod]
  rcases lim_drop xs (n / 32) with h1 | h1
  · rw [e, ← Nat.div_div_eq_div_mul, h1]
  · exact absurd h h1

theorem rep_set (k x : Nat) (A : List Nat) : (List.replicate (k + 1) 0 ++ A).set k x = List.replicate k 0 ++ (x :: A) := by
  induction k with
  | zero => rfl
  | succ k ih => rw [List.replicate_succ, List.cons_append, List.set_cons_succ, ih, List.replicate_succ, List.cons_append]

theorem shr_next {w wr : World} {g s k b : Nat} {M A : List Nat} {t r : Int} (hat : ShrAt M s (k + 1) b A) (hx : Ok M) (hs : s ≤ 32) (hk : k < M.length) (hg : w.heap.size ≤ g)
    (hrow : Row wr w.heap.size g M.length (List.replicate (k + 1) 0 ++ A)) (hbel : Below w.heap.size w wr) (ht : t = ((b % BB * BB + lm M k : Nat) : Int)) (hr : r = t / 2 ^ s % 4294967296) :
    ∃ (k' b' : Nat) (A' : List Nat), k' ≤ M.length ∧ Value.int .i64 (↑k - 1) = .int .i64 ((k' : Int) - 1) ∧ Value.int .u64 t = .int .u64 b' ∧ ShrAt M s k' b' A' ∧
      Row (wr.setCell ⟨g, k, none⟩ (.int .u32 r)) w.heap.size g M.length (List.replicate k' 0 ++ A') ∧ Below w.heap.size w (wr.setCell ⟨g, k, none⟩ (.int .u32 r)) := by
  have e2 : r = (((b % BB * BB + lm M k) / 2 ^ s % BB : Nat) : Int) := by
    rw [hr, ht, Int.natCast_emod, Int.natCast_ediv, Int.natCast_pow]; rfl
  refine ⟨k, _, _, by omega, rfl, by rw [ht], hat.step hx hs hk, ?_, hbel.setCell hg _⟩
  rw [e2]
  have := hrow.set k ((b % BB * BB + lm M k) / 2 ^ s % BB)
  rw [rep_set] at this
  exact this

set_option maxRecDepth 100000 in
set_option maxHeartbeats 1000000 in
theorem shr_any (v : Value) (xs : List Nat) (n : Nat) (w : World) (h : Nums w v xs) (hn : n ≤ 9223372036854775807) (hlen : xs.length ≤ 2000000000) :
    Calls Tryd.prog 10 #[v, .int .i64 n] w fun e w' => ∃ v', e = .returned (.tuple #[v', .int .i64 0]) ∧ Nums w' v' (lim (val xs / 2 ^ n)) ∧ Below w.heap.size w w' := by
  obtain ⟨i0, hi, hz0, hz1, hz2⟩ := info_parts Tryd.info32
  have le1 := lim_val_length h.ok
  have HV := hide (val_lim (val xs))
  have HSV := hide (shr_val (lim (val xs)) n (ok_lim _))
  have HOKL := hide (ok_lim (val xs))
  go_enter Tryd.func10, Tryd.ntmps10
  go_wp2_with fail
  refine (trim_any v xs _ h).mono ?_
  rintro e w1 ⟨v1, rfl, rfl, hN1, _⟩
  clear h
  obtain ⟨ho1, a1, c1, rfl, hl1, hm1, hc1⟩ := hN1
  have HC := hide hc1
  clear hc1 ho1
  unfold maxLen at hm1
  generalize lim (val xs) = L at *
  by_cases hs : L.length ≤ n / 32
  · have hsI : (L.length : Int) ≤ (n : Int) / 32 := by omega
    go_wp2
    go_ret2
    refine ⟨.slice none 0 0, rfl, ?_, Below.refl _ _⟩
    have e0 : val xs / 2 ^ n = 0 := by rw [← HV.out, HSV.out, drop_over L _ hs]; simp
    rw [e0, lim_zero]
    exact Nums.nil_mk _ _ _ (Nat.zero_le _)
  · have hsI : ¬ (L.length : Int) ≤ (n : Int) / 32 := by omega
    obtain ⟨b, off, rfl, hx⟩ := HC.out (ne_nil (k := n / 32) (by omega))
    have HX := hide hx
    clear hx HC
    go_wp2_with (at_make; refine wpList_make_full _ rfl _ _ 22 rfl w.heap.size 32 i0 (.int .u32 0) 1 Tryd.underlying22 hi hz0 hz1 _ _ _ _ (L.length - n / 32) rfl rfl ?_ ?_ ?_ ?_ (Nat.le_refl _) ?_)
    all_goals try (first | rfl | omega)
    all_goals try (rw [hz2]; omega)
    all_goals try (unfold maxLen; omega)
    intro w1 hown hgrow
    have hbel : Below w.heap.size w w1 := (Below.refl _ _).grown hgrow (Nat.le_refl _) (fun k hk => by simp at hk)
    have hrow : Row w1 w.heap.size w.heap.size (L.length - n / 32) (fil [] (L.length - n / 32)) := by unfold Row; rw [← made_fil]; exact hown
    clear hown hgrow
    go_wp2
    have HML : Hid ((L.drop (n / 32)).length = L.length - n / 32) := List.length_drop
    have HLM : Hid (∀ i, lm (L.drop (n / 32)) i = lm L (n / 32 + i)) := fun i => lm_drop _ _ _
    have HOM := hide (HOKL.out.drop (n / 32))
    have hcm : ∀ i, i < (L.drop (n / 32)).length → w.cell? ⟨b, off + n / 32 + i, none⟩ = some (.int .u32 (lm (L.drop (n / 32)) i : Nat)) := by
      intro i hi'
      rw [HML.out] at hi'
      rw [HLM.out, Nat.add_assoc]
      exact HX.out _ (by omega)
    rw [← HML.out] at hrow ⊢
    have HCM := hide hcm
    have hmb : (L.drop (n / 32)).length ≤ 2000000000 := by rw [HML.out]; omega
    clear hcm HML HLM HX
    generalize L.drop (n / 32) = M at *
    obtain ⟨s, hs'⟩ : ∃ s, s = n % 32 := ⟨_, rfl⟩
    have HS := hide hs'
    have hs32 : s ≤ 32 := by omega
    have hsn : (s : Int) = (n : Int) % 32 := by omega
    clear hs'
    go_loopw [7, 8] (fun bv iv wr => ∃ (k b : Nat) (A : List Nat), k ≤ M.length ∧ iv = .int .i64 ((k : Int) - 1) ∧ bv = .int .u64 b ∧ ShrAt M s k b A ∧ Row wr w.heap.size w.heap.size M.length (List.replicate k 0 ++ A) ∧ Below w.heap.size w wr) (fun _ iv _ => (intOf iv + 1).toNat)
    case atStart => exact ⟨M.length, 0, [], Nat.le_refl _, by go_num, rfl, ShrAt.start _ _, by simpa [fil] using hrow, hbel⟩
    case round =>
      clear hrow hbel
      obtain ⟨k, bo, A, hk, rfl, rfl, hat, hrow, hbel⟩ := hrel
      cases k with
      | zero =>
        rw [List.replicate_zero, List.nil_append] at hrow
        have hal : A.length = M.length := by rw [hat.len]; omega
        have HN := hide (hrow.nums hal hat.ok)
        have HVA : Hid (val A = val M / 2 ^ s) := by have := hat.sum; rw [List.drop_zero] at this; exact this
        have HB := hide hbel
        clear hrow hbel hat hal
        go_wp2_with fail
        refine (trim_any _ _ _ HN.out).mono ?_
        rintro e w5 ⟨v5, rfl, rfl, hN5, _⟩
        go_wp2
        go_ret2
        refine ⟨v5, rfl, ?_, HB.out⟩
        have e0 : val xs / 2 ^ n = val A := by rw [← HV.out, HSV.out, HVA.out, HS.out]
        rw [e0]; exact hN5
      | succ k =>
        rw [show (((k + 1 : Nat) : Int) - 1) = (k : Int) from by omega]
        have hxb := HOM.out.at k
        have hxc := (hbel.cell (World.block_lt_of_cell? w _ (HCM.out k (by omega)))).trans (HCM.out k (by omega))
        unfold BB at hxb
        have hf := hrow.free k
        have hcl := hrow.cell (by rw [List.length_append, List.length_replicate, hat.len]; omega) k (by omega)
        have hor := or_up bo (lm M k) hxb
        have HAT := hide hat
        have HR := hide hrow
        have HB := hide hbel
        clear hat hrow hbel
        go_wp2
        refine ⟨shr_next HAT.out HOM.out hs32 (by omega) (Nat.le_refl _) HR.out HB.out (by rw [Int.natCast_add, Int.natCast_mul, Int.natCast_emod]) (by rw [HS.out]), ?_⟩
        simp [intOf]
end Go.Proofs.YtmibgcpafccliaaDoor
