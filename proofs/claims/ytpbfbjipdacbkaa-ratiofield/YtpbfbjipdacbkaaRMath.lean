/- Fractions: lowest terms, sums, products; how great they get. Nothing of the program. -/
import Derived.Test.YtpbfbjipdacbkaaIVar
namespace Go.Proofs.Ytpbfbjipdacbkaa

/-- what both terms are divided by -/
def com (n d : Int) : Int := if d < 0 then -(Int.gcd n d : Int) else (Int.gcd n d : Int)

theorem gcd_ne {n d : Int} (hd : d ≠ 0) : (Int.gcd n d : Int) ≠ 0 := by
  intro e
  have : Int.gcd n d = 0 := by omega
  exact hd (Int.gcd_eq_zero_iff.1 this).2
theorem com_ne {n d : Int} (hd : d ≠ 0) : com n d ≠ 0 := by
  have := gcd_ne (n := n) hd
  unfold com; split <;> omega
theorem com_num {n d : Int} (hd : d ≠ 0) : n / com n d = (Rat.divInt n d).num := by
  rw [Rat.num_divInt, Int.gcd_comm]
  unfold com
  by_cases h : d < 0
  · rw [if_pos h, Int.sign_eq_neg_one_of_neg h, Int.ediv_neg, Int.neg_one_mul, Int.neg_ediv_of_dvd (Int.gcd_dvd_left ..)]
  · rw [if_neg h, Int.sign_eq_one_of_pos (by omega), Int.one_mul]
theorem com_den {n d : Int} (hd : d ≠ 0) : d / com n d = ((Rat.divInt n d).den : Int) := by
  rw [Rat.den_divInt, if_neg hd, Int.natCast_ediv, Int.gcd_comm]
  unfold com
  by_cases h : d < 0
  · rw [if_pos h, Int.ediv_neg, ← Int.neg_ediv_of_dvd (Int.gcd_dvd_right ..)]
    congr 1; omega
  · rw [if_neg h]
    congr 1; omega

theorem divInt_cross {n d : Int} (hd : d ≠ 0) : (Rat.divInt n d).num * d = n * ((Rat.divInt n d).den : Int) := by
  have h := Rat.num_divInt_den (Rat.divInt n d)
  exact (Rat.divInt_eq_divInt_iff (by have := (Rat.divInt n d).den_nz; omega) hd).1 h
theorem divInt_num_dvd {n d : Int} (hd : d ≠ 0) : (Rat.divInt n d).num ∣ n := by
  rw [← com_num hd]
  refine ⟨com n d, ?_⟩
  have : com n d ∣ n := by unfold com; split; exact Int.neg_dvd.2 (Int.gcd_dvd_left ..); exact Int.gcd_dvd_left ..
  rw [Int.ediv_mul_cancel this]
theorem divInt_den_dvd {n d : Int} (hd : d ≠ 0) : ((Rat.divInt n d).den : Int) ∣ d := by
  rw [← com_den hd]
  refine ⟨com n d, ?_⟩
  have : com n d ∣ d := by unfold com; split; exact Int.neg_dvd.2 (Int.gcd_dvd_right ..); exact Int.gcd_dvd_right ..
  rw [Int.ediv_mul_cancel this]

/-- a fraction by its terms -/
theorem rat_terms {q : Rat} {n : Int} {d : Nat} (hd : d ≠ 0) (hc : n.natAbs.Coprime d) (e : n * (q.den : Int) = q.num * (d : Int)) : q.num = n ∧ q.den = d := by
  have h : (⟨n, d, hd, hc⟩ : Rat) = q := by
    rw [Rat.mk_eq_mkRat, ← Rat.mkRat_self q]
    exact (Rat.mkRat_eq_iff hd q.den_nz).2 e
  rw [← h]
  exact ⟨rfl, rfl⟩

theorem num_den_coprime (q : Rat) : q.num.natAbs.Coprime q.den := q.reduced

theorem nat_dvd_of {a b : Nat} (h : (a : Int) ∣ (b : Int)) : a ∣ b := Int.natCast_dvd_natCast.1 h
theorem natAbs_dvd_of {a b : Int} (h : a ∣ b) : a.natAbs ∣ b.natAbs := Int.natAbs_dvd_natAbs.2 h

/-- the terms of a product -/
theorem mul_terms (x y : Rat) : (x * y).num = (Rat.divInt x.num y.den).num * (Rat.divInt y.num x.den).num ∧
    (x * y).den = (Rat.divInt x.num y.den).den * (Rat.divInt y.num x.den).den := by
  have hx : (x.den : Int) ≠ 0 := by have := x.den_nz; omega
  have hy : (y.den : Int) ≠ 0 := by have := y.den_nz; omega
  have ca := divInt_cross (n := x.num) hy
  have cb := divInt_cross (n := y.num) hx
  have na := natAbs_dvd_of (divInt_num_dvd (n := x.num) hy)
  have nb := natAbs_dvd_of (divInt_num_dvd (n := y.num) hx)
  have da := nat_dvd_of (divInt_den_dvd (n := x.num) hy)
  have db := nat_dvd_of (divInt_den_dvd (n := y.num) hx)
  have ra := (Rat.divInt x.num y.den).reduced
  have rb := (Rat.divInt y.num x.den).reduced
  have za := (Rat.divInt x.num y.den).den_nz
  have zb := (Rat.divInt y.num x.den).den_nz
  generalize Rat.divInt x.num y.den = a at *
  generalize Rat.divInt y.num x.den = b at *
  refine rat_terms (Nat.mul_ne_zero za zb) ?_ ?_
  · rw [Int.natAbs_mul]
    exact Nat.Coprime.mul_right (Nat.Coprime.mul_left ra (Nat.Coprime.coprime_dvd_left nb (Nat.Coprime.coprime_dvd_right da y.reduced))) (Nat.Coprime.mul_left (Nat.Coprime.coprime_dvd_left na (Nat.Coprime.coprime_dvd_right db x.reduced)) rb)
  · have h : Rat.divInt (x * y).num (x * y).den = Rat.divInt (x.num * y.num) (x.den * y.den : Nat) := by rw [Rat.num_divInt_den, Rat.divInt_ofNat, Rat.mul_def']
    have h2 := (Rat.divInt_eq_divInt_iff (by have := (x * y).den_nz; omega) (by have := Nat.mul_ne_zero x.den_nz y.den_nz; omega)).1 h
    have hxy : ((x.den * y.den : Nat) : Int) ≠ 0 := by have := Nat.mul_ne_zero x.den_nz y.den_nz; omega
    apply Int.eq_of_mul_eq_mul_right hxy
    rw [Int.natCast_mul, Int.natCast_mul] at *
    calc a.num * b.num * ((x * y).den : Int) * ((x.den : Int) * (y.den : Int)) = (a.num * (y.den : Int)) * (b.num * (x.den : Int)) * ((x * y).den : Int) := by grind
      _ = (x.num * y.num * ((x * y).den : Int)) * ((a.den : Int) * (b.den : Int)) := by rw [ca, cb]; grind
      _ = (x * y).num * ((x.den : Int) * (y.den : Int)) * ((a.den : Int) * (b.den : Int)) := by rw [h2]
      _ = (x * y).num * ((a.den : Int) * (b.den : Int)) * ((x.den : Int) * (y.den : Int)) := by grind
/-- what a sum's terms are made of -/
def gdn (x y : Rat) : Int := (Int.gcd x.den y.den : Int)
def sA (x y : Rat) : Int := (x.den : Int) / gdn x y
def sB (x y : Rat) : Int := (y.den : Int) / gdn x y
def sS (x y : Rat) : Int := x.num * sB x y + y.num * sA x y
theorem gdn_pos (x y : Rat) : 0 < gdn x y := by
  have := gcd_ne (n := (x.den : Int)) (d := (y.den : Int)) (by have := y.den_nz; omega)
  unfold gdn; omega
theorem sA_mul (x y : Rat) : sA x y * gdn x y = x.den := Int.ediv_mul_cancel (Int.gcd_dvd_left ..)
theorem sB_mul (x y : Rat) : sB x y * gdn x y = y.den := Int.ediv_mul_cancel (Int.gcd_dvd_right ..)
theorem sA_pos (x y : Rat) : 0 < sA x y := by
  have h := sA_mul x y
  have h1 := gdn_pos x y
  have h2 := x.den_nz
  rcases Int.lt_trichotomy (sA x y) 0 with k | k | k
  · have := Int.mul_neg_of_neg_of_pos k h1; omega
  · rw [k] at h; omega
  · exact k
theorem sB_pos (x y : Rat) : 0 < sB x y := by
  have h := sB_mul x y
  have h1 := gdn_pos x y
  have h2 := y.den_nz
  rcases Int.lt_trichotomy (sB x y) 0 with k | k | k
  · have := Int.mul_neg_of_neg_of_pos k h1; omega
  · rw [k] at h; omega
  · exact k
theorem sAB_coprime (x y : Rat) : (sA x y).natAbs.Coprime (sB x y).natAbs := by
  unfold sA sB gdn
  rw [show Int.gcd (x.den : Int) (y.den : Int) = Nat.gcd x.den y.den from rfl, ← Int.natCast_ediv, ← Int.natCast_ediv, Int.natAbs_natCast, Int.natAbs_natCast]
  exact Nat.coprime_div_gcd_div_gcd (Nat.gcd_pos_of_pos_left _ x.den_pos)
/-- what divides a and is added up with a multiple of a -/
theorem coprime_add {a u v : Int} (h : u.natAbs.Coprime a.natAbs) (k : a ∣ v) : (u + v).natAbs.Coprime a.natAbs := by
  have h1 : (Nat.gcd (u + v).natAbs a.natAbs : Int) ∣ u := by
    have d1 : (Nat.gcd (u + v).natAbs a.natAbs : Int) ∣ u + v := Int.ofNat_dvd_left.2 (Nat.gcd_dvd_left ..)
    have d2 : (Nat.gcd (u + v).natAbs a.natAbs : Int) ∣ v := Int.dvd_trans (Int.ofNat_dvd_left.2 (Nat.gcd_dvd_right ..)) k
    have := Int.dvd_sub d1 d2
    rwa [show u + v - v = u by omega] at this
  have h2 : Nat.gcd (u + v).natAbs a.natAbs ∣ Nat.gcd u.natAbs a.natAbs := Nat.dvd_gcd (Int.ofNat_dvd_left.1 h1) (Nat.gcd_dvd_right ..)
  rw [show Nat.gcd u.natAbs a.natAbs = 1 from h] at h2
  exact Nat.dvd_one.1 h2
theorem sS_coprime (x y : Rat) : (sS x y).natAbs.Coprime (sA x y * sB x y).natAbs := by
  have hA : (sA x y).natAbs ∣ x.den := by have := natAbs_dvd_of (⟨_, (sA_mul x y).symm⟩ : sA x y ∣ (x.den : Int)); rwa [Int.natAbs_natCast] at this
  have hB : (sB x y).natAbs ∣ y.den := by have := natAbs_dvd_of (⟨_, (sB_mul x y).symm⟩ : sB x y ∣ (y.den : Int)); rwa [Int.natAbs_natCast] at this
  rw [Int.natAbs_mul]
  refine Nat.Coprime.mul_right ?_ ?_
  · refine coprime_add ?_ (Int.dvd_mul_left ..)
    rw [Int.natAbs_mul]
    exact Nat.Coprime.mul_left (Nat.Coprime.coprime_dvd_right hA x.reduced) (sAB_coprime x y).symm
  · unfold sS
    rw [Int.add_comm]
    refine coprime_add ?_ (Int.dvd_mul_left ..)
    rw [Int.natAbs_mul]
    exact Nat.Coprime.mul_left (Nat.Coprime.coprime_dvd_right hB y.reduced) (sAB_coprime x y)

/-- the terms of a sum -/
theorem add_terms (x y : Rat) : (x + y).num = (Rat.divInt (sS x y) (gdn x y)).num ∧ ((x + y).den : Int) = sA x y * sB x y * ((Rat.divInt (sS x y) (gdn x y)).den : Int) := by
  have hg := gdn_pos x y
  have hg0 : gdn x y ≠ 0 := by omega
  have cr := divInt_cross (n := sS x y) hg0
  have nr := natAbs_dvd_of (divInt_num_dvd (n := sS x y) hg0)
  have rr := (Rat.divInt (sS x y) (gdn x y)).reduced
  have zr := (Rat.divInt (sS x y) (gdn x y)).den_nz
  have pa := sA_pos x y
  have pb := sB_pos x y
  have ma := sA_mul x y
  have mb := sB_mul x y
  have co := sS_coprime x y
  have es : sS x y = x.num * sB x y + y.num * sA x y := rfl
  generalize Rat.divInt (sS x y) (gdn x y) = r at *
  generalize sA x y = a at *
  generalize sB x y = b at *
  generalize gdn x y = g at *
  generalize sS x y = s at *
  have h := rat_terms (q := x + y) (n := r.num) (d := (a * b).natAbs * r.den) (Nat.mul_ne_zero (by have := Int.mul_pos pa pb; omega) zr) (Nat.Coprime.mul_right (Nat.Coprime.coprime_dvd_left nr co) rr) ?_
  · refine ⟨h.1, ?_⟩
    rw [h.2, Int.natCast_mul, Int.natAbs_of_nonneg (Int.le_of_lt (Int.mul_pos pa pb))]
  · have h : Rat.divInt (x + y).num (x + y).den = Rat.divInt (x.num * y.den + y.num * x.den) (x.den * y.den : Nat) := by rw [Rat.num_divInt_den, Rat.divInt_ofNat, Rat.add_def']
    have hxy : ((x.den * y.den : Nat) : Int) ≠ 0 := by have := Nat.mul_ne_zero x.den_nz y.den_nz; omega
    have h2 := (Rat.divInt_eq_divInt_iff (by have := (x + y).den_nz; omega) hxy).1 h
    apply Int.eq_of_mul_eq_mul_right hxy
    rw [Int.natCast_mul, Int.natCast_mul, Int.natAbs_of_nonneg (Int.le_of_lt (Int.mul_pos pa pb))] at *
    have e1 : x.num * (y.den : Int) + y.num * (x.den : Int) = g * s := by rw [← ma, ← mb, es]; grind
    rw [e1] at h2
    have e2 : r.num * ((x + y).den : Int) * ((x.den : Int) * (y.den : Int)) = (r.num * g) * (a * b * g) * ((x + y).den : Int) := by rw [← ma, ← mb]; grind
    have e3 : (x + y).num * (a * b * (r.den : Int)) * ((x.den : Int) * (y.den : Int)) = ((x + y).num * ((x.den : Int) * (y.den : Int))) * (a * b * (r.den : Int)) := by grind
    rw [e2, e3, cr, h2]; grind

/-- of so many limbs at most, both terms -/
structure SzR (k : Nat) (q : Rat) : Prop where
  num : SzI k q.num
  den : SzI k (q.den : Int)
theorem SzR.mono {j k : Nat} {q : Rat} (h : SzR j q) (hl : j ≤ k) : SzR k q := ⟨h.num.mono hl, h.den.mono hl⟩
theorem SzI.dvd {k : Nat} {a b : Int} (h : SzI k b) (hd : a ∣ b) (h0 : b = 0 → a = 0) : SzI k a := by
  unfold SzI at *
  by_cases e : b = 0
  · rw [h0 e]; rw [e] at h; exact h
  · exact Nat.lt_of_le_of_lt (Nat.le_of_dvd (by omega) (natAbs_dvd_of hd)) h
theorem SzR.divInt {j k : Nat} {n d : Int} (hd : d ≠ 0) (h : SzI j n) (h' : SzI k d) : SzI j (Rat.divInt n d).num ∧ SzI k ((Rat.divInt n d).den : Int) := by
  refine ⟨h.dvd (divInt_num_dvd hd) fun e => ?_, h'.dvd (divInt_den_dvd hd) fun e => absurd e hd⟩
  rw [e, Rat.zero_divInt]; rfl
theorem SzR.neg {k : Nat} {q : Rat} (h : SzR k q) : SzR k (-q) := ⟨h.num.neg, h.den⟩
theorem SzR.mul {j k : Nat} {x y : Rat} (h : SzR j x) (h' : SzR k y) : SzR (j + k) (x * y) := by
  have hx : (x.den : Int) ≠ 0 := by have := x.den_nz; omega
  have hy : (y.den : Int) ≠ 0 := by have := y.den_nz; omega
  have a := SzR.divInt hy h.num h'.den
  have b := SzR.divInt hx h'.num h.den
  refine ⟨by rw [(mul_terms x y).1]; exact a.1.mul b.1, by rw [(mul_terms x y).2, Int.natCast_mul, Nat.add_comm]; exact a.2.mul b.2⟩
theorem sz_sA {k : Nat} {x : Rat} (h : SzR k x) (y : Rat) : SzI k (sA x y) := h.den.dvd (⟨_, (sA_mul x y).symm⟩ : sA x y ∣ (x.den : Int)) fun e => absurd e (by have := x.den_nz; omega)
theorem sz_sB {k : Nat} {y : Rat} (h : SzR k y) (x : Rat) : SzI k (sB x y) := h.den.dvd (⟨_, (sB_mul x y).symm⟩ : sB x y ∣ (y.den : Int)) fun e => absurd e (by have := y.den_nz; omega)
theorem sz_gdn {k : Nat} {x : Rat} (h : SzR k x) (y : Rat) : SzI k (gdn x y) := h.den.dvd (Int.gcd_dvd_left ..) fun e => absurd e (by have := x.den_nz; omega)
theorem sz_sS {j k : Nat} {x y : Rat} (h : SzR j x) (h' : SzR k y) : SzI (j + k + 1) (sS x y) := by
  have := (h.num.mul (sz_sB h' x)).add (h'.num.mul (sz_sA h y))
  exact this.mono (by omega)
theorem SzR.add {j k : Nat} {x y : Rat} (h : SzR j x) (h' : SzR k y) : SzR (j + k + 1) (x + y) := by
  have hg : gdn x y ≠ 0 := by have := gdn_pos x y; omega
  have r := SzR.divInt hg (sz_sS h h') (sz_gdn h y)
  refine ⟨by rw [(add_terms x y).1]; exact r.1, ?_⟩
  have h1 : ((x + y).den : Int) ∣ (x.den : Int) * (y.den : Int) := by
    rw [(add_terms x y).2, ← sA_mul x y, ← sB_mul x y]
    obtain ⟨t, ht⟩ := divInt_den_dvd (n := sS x y) hg
    refine ⟨t * gdn x y, ?_⟩
    generalize sA x y = a at *
    generalize sB x y = b at *
    generalize ((Rat.divInt (sS x y) (gdn x y)).den : Int) = c at *
    generalize gdn x y = g at *
    rw [show a * b * c * (t * g) = a * b * (c * t) * g by grind, ← ht]; grind
  have h2 := (h.den.mul h'.den).dvd h1 fun e => absurd e (by have := Int.mul_ne_zero (show (x.den : Int) ≠ 0 by have := x.den_nz; omega) (show (y.den : Int) ≠ 0 by have := y.den_nz; omega); exact this)
  exact h2.mono (by omega)
theorem SzR.sub {j k : Nat} {x y : Rat} (h : SzR j x) (h' : SzR k y) : SzR (j + k + 1) (x - y) := by
  rw [Rat.sub_eq_add_neg]; exact h.add h'.neg
theorem SzR.int {k : Nat} {z : Int} (h : SzI (k + 1) z) : SzR (k + 1) (z : Rat) := ⟨h, SzI.one.mono (by omega)⟩
theorem SzR.inv {k : Nat} {q : Rat} (h : SzR k q) (h0 : q ≠ 0) : SzR k q⁻¹ := by
  have hn : q.num ≠ 0 := fun e => h0 (Rat.num_eq_zero.1 e)
  rw [Rat.inv_def]
  have := SzR.divInt hn h.den h.num
  exact ⟨this.1, this.2⟩
end Go.Proofs.Ytpbfbjipdacbkaa
