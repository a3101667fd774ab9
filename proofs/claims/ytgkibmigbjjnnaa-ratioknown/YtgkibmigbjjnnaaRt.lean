/- Fractions in memory: a struct of two numbers; a block of four cells. -/
import Derived.Test.YtgkibmigbjjnnaaIDiv
import Derived.Test.YtgkibmigbjjnnaaIVar
namespace Go.Proofs.Ytgkibmigbjjnnaa
open Go.RowKit

set_option maxRecDepth 100000 in
set_option maxHeartbeats 1000000 in
theorem igcd_any (v1 v2 : Value) (x y : Int) (w : World) (h1 : IntAt w v1 x) (h2 : IntAt w v2 y) (l1 : (lim x.natAbs).length ≤ 1000000000) (l2 : (lim y.natAbs).length ≤ 1000000000) :
    Calls Try.prog 41 #[v1, v2] w fun e w' => ∃ v', e = .returned v' ∧ IntAt w' v' (Int.gcd x y : Int) ∧ Below w.heap.size w w' := by
  obtain ⟨b1, n1, a1, c1, rfl, hn1, rfl, h01⟩ := h1
  obtain ⟨b2, n2, a2, c2, rfl, hn2, rfl, h02⟩ := h2
  have HE := hide (boxes3 w (.bool b1) (.slice a1 (lim n1).length c1) (.bool b2) (.slice a2 (lim n2).length c2) (.bool false) (.slice none 0 0))
  have HN1 := hide (hn1.below HE.out.2.2.2)
  have HN2 := hide (hn2.below HE.out.2.2.2)
  rw [sg_abs] at l1 l2
  clear hn1 h01 hn2 h02
  go_enter Try.func41, Try.ntmps41
  go_wp2_with fail
  refine (gcd_any _ _ (lim n1) (lim n2) _ HN1.out HN2.out l1 l2).mono ?_
  rintro e w1 ⟨v, rfl, m1, hb1⟩
  rw [val_lim, val_lim] at m1
  have HM := hide m1
  have HX := hide (HE.out.2.2.1.step hb1)
  have HB := hide (HE.out.2.2.2.trans (hb1.mono HE.out.2.2.2.size))
  clear m1 hb1 HE
  go_wp2_with fail
  refine (made_any false (Nat.gcd n1 n2) _ _ HM.out).mono ?_
  rintro e w2 ⟨v, rfl, ⟨b', n', a', c', rfl, hn', he, h0⟩, hb2⟩
  replace HX := hide (HX.out.step hb2)
  replace HB := hide (HB.out.trans (hb2.mono HB.out.size))
  have hc0 := HX.out.cell0
  have hc1 := HX.out.cell1
  have hf0 := HX.out.free 0
  have hf1 := HX.out.free 1
  clear hb2
  go_wp2
  refine ret_int rfl (w.heap.size + 1 + 1) _ _ _ _ rfl ((HX.out.set0 _).set1 _) rfl ?_
  exact handed HX.out (by simp) (by simp) (by omega) HB.out hn' (by rw [← he]; simp [Int.gcd, sg_abs]) h0
end Go.Proofs.Ytgkibmigbjjnnaa

namespace Go.Proofs.Ytgkibmigbjjnnaa

/-- what both terms are divided by -/
def com (n d : Int) : Int := if d < 0 then -(Int.gcd n d : Int) else (Int.gcd n d : Int)

theorem gcd_ne {n d : Int} (hd : d ≠ 0) : (Int.gcd n d : Int) ≠ 0 := by
  intro e
  have : Int.gcd n d = 0 := by omega
  exact hd (Int.gcd_eq_zero_iff.1 this).2
theorem com_ne {n d : Int} (hd : d ≠ 0) : com n d ≠ 0 := by
  have := gcd_ne (n := n) hd
  unfold com; split <;> omega
theorem com_num {n d : Int} (hd : d ≠ 0) : n / com n d = (Rat.divInt n d).num := by
  rw [Rat.num_divInt, Int.gcd_comm]
  unfold com
  by_cases h : d < 0
  · rw [if_pos h, Int.sign_eq_neg_one_of_neg h, Int.ediv_neg, Int.neg_one_mul, Int.neg_ediv_of_dvd (Int.gcd_dvd_left ..)]
  · rw [if_neg h, Int.sign_eq_one_of_pos (by omega), Int.one_mul]
theorem com_den {n d : Int} (hd : d ≠ 0) : d / com n d = ((Rat.divInt n d).den : Int) := by
  rw [Rat.den_divInt, if_neg hd, Int.natCast_ediv, Int.gcd_comm]
  unfold com
  by_cases h : d < 0
  · rw [if_pos h, Int.ediv_neg, ← Int.neg_ediv_of_dvd (Int.gcd_dvd_right ..)]
    congr 1; omega
  · rw [if_neg h]
    congr 1; omega

theorem divInt_cross {n d : Int} (hd : d ≠ 0) : (Rat.divInt n d).num * d = n * ((Rat.divInt n d).den : Int) := by
  have h := Rat.num_divInt_den (Rat.divInt n d)
  exact (Rat.divInt_eq_divInt_iff (by have := (Rat.divInt n d).den_nz; omega) hd).1 h
theorem divInt_num_dvd {n d : Int} (hd : d ≠ 0) : (Rat.divInt n d).num ∣ n := by
  rw [← com_num hd]
  refine ⟨com n d, ?_⟩
  have : com n d ∣ n := by unfold com; split; exact Int.neg_dvd.2 (Int.gcd_dvd_left ..); exact Int.gcd_dvd_left ..
  rw [Int.ediv_mul_cancel this]
theorem divInt_den_dvd {n d : Int} (hd : d ≠ 0) : ((Rat.divInt n d).den : Int) ∣ d := by
  rw [← com_den hd]
  refine ⟨com n d, ?_⟩
  have : com n d ∣ d := by unfold com; split; exact Int.neg_dvd.2 (Int.gcd_dvd_right ..); exact Int.gcd_dvd_right ..
  rw [Int.ediv_mul_cancel this]

/-- a fraction by its terms -/
theorem rat_terms {q : Rat} {n : Int} {d : Nat} (hd : d ≠ 0) (hc : n.natAbs.Coprime d) (e : n * (q.den : Int) = q.num * (d : Int)) : q.num = n ∧ q.den = d := by
  have h : (⟨n, d, hd, hc⟩ : Rat) = q := by
    rw [Rat.mk_eq_mkRat, ← Rat.mkRat_self q]
    exact (Rat.mkRat_eq_iff hd q.den_nz).2 e
  rw [← h]
  exact ⟨rfl, rfl⟩

theorem nat_dvd_of {a b : Nat} (h : (a : Int) ∣ (b : Int)) : a ∣ b := Int.natCast_dvd_natCast.1 h
theorem natAbs_dvd_of {a b : Int} (h : a ∣ b) : a.natAbs ∣ b.natAbs := Int.natAbs_dvd_natAbs.2 h

/-- the terms of a product -/
theorem mul_terms (x y : Rat) : (x * y).num = (Rat.divInt x.num y.den).num * (Rat.divInt y.num x.den).num ∧
    (x * y).den = (Rat.divInt x.num y.den).den * (Rat.divInt y.num x.den).den := by
  have hx : (x.den : Int) ≠ 0 := by have := x.den_nz; omega
  have hy : (y.den : Int) ≠ 0 := by have := y.den_nz; omega
  have ca := divInt_cross (n := x.num) hy
  have cb := divInt_cross (n := y.num) hx
  have na := natAbs_dvd_of (divInt_num_dvd (n := x.num) hy)
  have nb := natAbs_dvd_of (divInt_num_dvd (n := y.num) hx)
  have da := nat_dvd_of (divInt_den_dvd (n := x.num) hy)
  have db := nat_dvd_of (divInt_den_dvd (n := y.num) hx)
  have ra := (Rat.divInt x.num y.den).reduced
  have rb := (Rat.divInt y.num x.den).reduced
  have za := (Rat.divInt x.num y.den).den_nz
  have zb := (Rat.divInt y.num x.den).den_nz
  generalize Rat.divInt x.num y.den = a at *
  generalize Rat.divInt y.num x.den = b at *
  refine rat_terms (Nat.mul_ne_zero za zb) ?_ ?_
  · rw [Int.natAbs_mul]
    exact Nat.Coprime.mul_right (Nat.Coprime.mul_left ra (Nat.Coprime.coprime_dvd_left nb (Nat.Coprime.coprime_dvd_right da y.reduced))) (Nat.Coprime.mul_left (Nat.Coprime.coprime_dvd_left na (Nat.Coprime.coprime_dvd_right db x.reduced)) rb)
  · have h : Rat.divInt (x * y).num (x * y).den = Rat.divInt (x.num * y.num) (x.den * y.den : Nat) := by rw [Rat.num_divInt_den, Rat.divInt_ofNat, Rat.mul_def']
    have h2 := (Rat.divInt_eq_divInt_iff (by have := (x * y).den_nz; omega) (by have := Nat.mul_ne_zero x.den_nz y.den_nz; omega)).1 h
    have hxy : ((x.den * y.den : Nat) : Int) ≠ 0 := by have := Nat.mul_ne_zero x.den_nz y.den_nz; omega
    apply Int.eq_of_mul_eq_mul_right hxy
    rw [Int.natCast_mul, Int.natCast_mul] at *
    calc a.num * b.num * ((x * y).den : Int) * ((x.den : Int) * (y.den : Int)) = (a.num * (y.den : Int)) * (b.num * (x.den : Int)) * ((x * y).den : Int) := by grind
      _ = (x.num * y.num * ((x * y).den : Int)) * ((a.den : Int) * (b.den : Int)) := by rw [ca, cb]; grind
      _ = (x * y).num * ((x.den : Int) * (y.den : Int)) * ((a.den : Int) * (b.den : Int)) := by rw [h2]
      _ = (x * y).num * ((a.den : Int) * (b.den : Int)) * ((x.den : Int) * (y.den : Int)) := by grind
/-- what a sum's terms are made of -/
def gdn (x y : Rat) : Int := (Int.gcd x.den y.den : Int)
def sA (x y : Rat) : Int := (x.den : Int) / gdn x y
def sB (x y : Rat) : Int := (y.den : Int) / gdn x y
def sS (x y : Rat) : Int := x.num * sB x y + y.num * sA x y
theorem gdn_pos (x y : Rat) : 0 < gdn x y := by
  have := gcd_ne (n := (x.den : Int)) (d := (y.den : Int)) (by have := y.den_nz; omega)
  unfold gdn; omega
theorem sA_mul (x y : Rat) : sA x y * gdn x y = x.den := Int.ediv_mul_cancel (Int.gcd_dvd_left ..)
theorem sB_mul (x y : Rat) : sB x y * gdn x y = y.den := Int.ediv_mul_cancel (Int.gcd_dvd_right ..)
theorem sA_pos (x y : Rat) : 0 < sA x y := by
  have h := sA_mul x y
  have h1 := gdn_pos x y
  have h2 := x.den_nz
  rcases Int.lt_trichotomy (sA x y) 0 with k | k | k
  · have := Int.mul_neg_of_neg_of_pos k h1; omega
  · rw [k] at h; omega
  · exact k
theorem sB_pos (x y : Rat) : 0 < sB x y := by
  have h := sB_mul x y
  have h1 := gdn_pos x y
  have h2 := y.den_nz
  rcases Int.lt_trichotomy (sB x y) 0 with k | k | k
  · have := Int.mul_neg_of_neg_of_pos k h1; omega
  · rw [k] at h; omega
  · exact k
theorem sAB_coprime (x y : Rat) : (sA x y).natAbs.Coprime (sB x y).natAbs := by
  unfold sA sB gdn
  rw [show Int.gcd (x.den : Int) (y.den : Int) = Nat.gcd x.den y.den from rfl, ← Int.natCast_ediv, ← Int.natCast_ediv, Int.natAbs_natCast, Int.natAbs_natCast]
  exact Nat.coprime_div_gcd_div_gcd (Nat.gcd_pos_of_pos_left _ x.den_pos)
/-- what divides a and is added up with a multiple of a -/
theorem coprime_add {a u v : Int} (h : u.natAbs.Coprime a.natAbs) (k : a ∣ v) : (u + v).natAbs.Coprime a.natAbs := by
  have h1 : (Nat.gcd (u + v).natAbs a.natAbs : Int) ∣ u := by
    have d1 : (Nat.gcd (u + v).natAbs a.natAbs : Int) ∣ u + v := Int.ofNat_dvd_left.2 (Nat.gcd_dvd_left ..)
    have d2 : (Nat.gcd (u + v).natAbs a.natAbs : Int) ∣ v := Int.dvd_trans (Int.ofNat_dvd_left.2 (Nat.gcd_dvd_right ..)) k
    have := Int.dvd_sub d1 d2
    rwa [show u + v - v = u by omega] at this
  have h2 : Nat.gcd (u + v).natAbs a.natAbs ∣ Nat.gcd u.natAbs a.natAbs := Nat.dvd_gcd (Int.ofNat_dvd_left.1 h1) (Nat.gcd_dvd_right ..)
  rw [show Nat.gcd u.natAbs a.natAbs = 1 from h] at h2
  exact Nat.dvd_one.1 h2
theorem sS_coprime (x y : Rat) : (sS x y).natAbs.Coprime (sA x y * sB x y).natAbs := by
  have hA : (sA x y).natAbs ∣ x.den := by have := natAbs_dvd_of (⟨_, (sA_mul x y).symm⟩ : sA x y ∣ (x.den : Int)); rwa [Int.natAbs_natCast] at this
  have hB : (sB x y).natAbs ∣ y.den := by have := natAbs_dvd_of (⟨_, (sB_mul x y).symm⟩ : sB x y ∣ (y.den : Int)); rwa [Int.natAbs_natCast] at this
  rw [Int.natAbs_mul]
  refine Nat.Coprime.mul_right ?_ ?_
  · refine coprime_add ?_ (Int.dvd_mul_left ..)
    rw [Int.natAbs_mul]
    exact Nat.Coprime.mul_left (Nat.Coprime.coprime_dvd_right hA x.reduced) (sAB_coprime x y).symm
  · unfold sS
    rw [Int.add_comm]
    refine coprime_add ?_ (Int.dvd_mul_left ..)
    rw [Int.natAbs_mul]
    exact Nat.Coprime.mul_left (Nat.Coprime.coprime_dvd_right hB y.reduced) (sAB_coprime x y)

/-- the terms of a sum -/
theorem add_terms (x y : Rat) : (x + y).num = (Rat.divInt (sS x y) (gdn x y)).num ∧ ((x + y).den : Int) = sA x y * sB x y * ((Rat.divInt (sS x y) (gdn x y)).den : Int) := by
  have hg := gdn_pos x y
  have hg0 : gdn x y ≠ 0 := by omega
  have cr := divInt_cross (n := sS x y) hg0
  have nr := natAbs_dvd_of (divInt_num_dvd (n := sS x y) hg0)
  have rr := (Rat.divInt (sS x y) (gdn x y)).reduced
  have zr := (Rat.divInt (sS x y) (gdn x y)).den_nz
  have pa := sA_pos x y
  have pb := sB_pos x y
  have ma := sA_mul x y
  have mb := sB_mul x y
  have co := sS_coprime x y
  have es : sS x y = x.num * sB x y + y.num * sA x y := rfl
  generalize Rat.divInt (sS x y) (gdn x y) = r at *
  generalize sA x y = a at *
  generalize sB x y = b at *
  generalize gdn x y = g at *
  generalize sS x y = s at *
  have h := rat_terms (q := x + y) (n := r.num) (d := (a * b).natAbs * r.den) (Nat.mul_ne_zero (by have := Int.mul_pos pa pb; omega) zr) (Nat.Coprime.mul_right (Nat.Coprime.coprime_dvd_left nr co) rr) ?_
  · refine ⟨h.1, ?_⟩
    rw [h.2, Int.natCast_mul, Int.natAbs_of_nonneg (Int.le_of_lt (Int.mul_pos pa pb))]
  · have h : Rat.divInt (x + y).num (x + y).den = Rat.divInt (x.num * y.den + y.num * x.den) (x.den * y.den : Nat) := by rw [Rat.num_divInt_den, Rat.divInt_ofNat, Rat.add_def']
    have hxy : ((x.den * y.den : Nat) : Int) ≠ 0 := by have := Nat.mul_ne_zero x.den_nz y.den_nz; omega
    have h2 := (Rat.divInt_eq_divInt_iff (by have := (x + y).den_nz; omega) hxy).1 h
    apply Int.eq_of_mul_eq_mul_right hxy
    rw [Int.natCast_mul, Int.natCast_mul, Int.natAbs_of_nonneg (Int.le_of_lt (Int.mul_pos pa pb))] at *
    have e1 : x.num * (y.den : Int) + y.num * (x.den : Int) = g * s := by rw [← ma, ← mb, es]; grind
    rw [e1] at h2
    have e2 : r.num * ((x + y).den : Int) * ((x.den : Int) * (y.den : Int)) = (r.num * g) * (a * b * g) * ((x + y).den : Int) := by rw [← ma, ← mb]; grind
    have e3 : (x + y).num * (a * b * (r.den : Int)) * ((x.den : Int) * (y.den : Int)) = ((x + y).num * ((x.den : Int) * (y.den : Int))) * (a * b * (r.den : Int)) := by grind
    rw [e2, e3, cr, h2]; grind

/-- of so many limbs at most, both terms -/
structure SzR (k : Nat) (q : Rat) : Prop where
  num : SzI k q.num
  den : SzI k (q.den : Int)
theorem SzR.mono {j k : Nat} {q : Rat} (h : SzR j q) (hl : j ≤ k) : SzR k q := ⟨h.num.mono hl, h.den.mono hl⟩
theorem SzI.dvd {k : Nat} {a b : Int} (h : SzI k b) (hd : a ∣ b) (h0 : b = 0 → a = 0) : SzI k a := by
  unfold SzI at *
  by_cases e : b = 0
  · rw [h0 e]; rw [e] at h; exact h
  · exact Nat.lt_of_le_of_lt (Nat.le_of_dvd (by omega) (natAbs_dvd_of hd)) h
theorem SzR.divInt {j k : Nat} {n d : Int} (hd : d ≠ 0) (h : SzI j n) (h' : SzI k d) : SzI j (Rat.divInt n d).num ∧ SzI k ((Rat.divInt n d).den : Int) := by
  refine ⟨h.dvd (divInt_num_dvd hd) fun e => ?_, h'.dvd (divInt_den_dvd hd) fun e => absurd e hd⟩
  rw [e, Rat.zero_divInt]; rfl
theorem SzR.neg {k : Nat} {q : Rat} (h : SzR k q) : SzR k (-q) := ⟨h.num.neg, h.den⟩
theorem SzR.mul {j k : Nat} {x y : Rat} (h : SzR j x) (h' : SzR k y) : SzR (j + k) (x * y) := by
  have hx : (x.den : Int) ≠ 0 := by have := x.den_nz; omega
  have hy : (y.den : Int) ≠ 0 := by have := y.den_nz; omega
  have a := SzR.divInt hy h.num h'.den
  have b := SzR.divInt hx h'.num h.den
  refine ⟨by rw [(mul_terms x y).1]; exact a.1.mul b.1, by rw [(mul_terms x y).2, Int.natCast_mul, Nat.add_comm]; exact a.2.mul b.2⟩
theorem sz_sA {k : Nat} {x : Rat} (h : SzR k x) (y : Rat) : SzI k (sA x y) := h.den.dvd (⟨_, (sA_mul x y).symm⟩ : sA x y ∣ (x.den : Int)) fun e => absurd e (by have := x.den_nz; omega)
theorem sz_sB {k : Nat} {y : Rat} (h : SzR k y) (x : Rat) : SzI k (sB x y) := h.den.dvd (⟨_, (sB_mul x y).symm⟩ : sB x y ∣ (y.den : Int)) fun e => absurd e (by have := y.den_nz; omega)
theorem sz_gdn {k : Nat} {x : Rat} (h : SzR k x) (y : Rat) : SzI k (gdn x y) := h.den.dvd (Int.gcd_dvd_left ..) fun e => absurd e (by have := x.den_nz; omega)
theorem sz_sS {j k : Nat} {x y : Rat} (h : SzR j x) (h' : SzR k y) : SzI (j + k + 1) (sS x y) := by
  have := (h.num.mul (sz_sB h' x)).add (h'.num.mul (sz_sA h y))
  exact this.mono (by omega)
theorem SzR.add {j k : Nat} {x y : Rat} (h : SzR j x) (h' : SzR k y) : SzR (j + k + 1) (x + y) := by
  have hg : gdn x y ≠ 0 := by have := gdn_pos x y; omega
  have r := SzR.divInt hg (sz_sS h h') (sz_gdn h y)
  refine ⟨by rw [(add_terms x y).1]; exact r.1, ?_⟩
  have h1 : ((x + y).den : Int) ∣ (x.den : Int) * (y.den : Int) := by
    rw [(add_terms x y).2, ← sA_mul x y, ← sB_mul x y]
    obtain ⟨t, ht⟩ := divInt_den_dvd (n := sS x y) hg
    refine ⟨t * gdn x y, ?_⟩
    generalize sA x y = a at *
    generalize sB x y = b at *
    generalize ((Rat.divInt (sS x y) (gdn x y)).den : Int) = c at *
    generalize gdn x y = g at *
    rw [show a * b * c * (t * g) = a * b * (c * t) * g by grind, ← ht]; grind
  have h2 := (h.den.mul h'.den).dvd h1 fun e => absurd e (by have := Int.mul_ne_zero (show (x.den : Int) ≠ 0 by have := x.den_nz; omega) (show (y.den : Int) ≠ 0 by have := y.den_nz; omega); exact this)
  exact h2.mono (by omega)
theorem SzR.int {k : Nat} {z : Int} (h : SzI (k + 1) z) : SzR (k + 1) (z : Rat) := ⟨h, SzI.one.mono (by omega)⟩
theorem SzR.inv {k : Nat} {q : Rat} (h : SzR k q) (h0 : q ≠ 0) : SzR k q⁻¹ := by
  have hn : q.num ≠ 0 := fun e => h0 (Rat.num_eq_zero.1 e)
  rw [Rat.inv_def]
  have := SzR.divInt hn h.den h.num
  exact ⟨this.1, this.2⟩
end Go.Proofs.Ytgkibmigbjjnnaa

namespace Go.Proofs.Ytgkibmigbjjnnaa
open Go.RowKit

theorem Try.infoRat : (Try.prog.info? 27).map (·.size) = some 4 := by kernel_rfl

/-- a block of four cells -/
def Box4 (W : World) (B : Nat) (x y u v : Value) : Prop := W.heap[B]? = some (.cells #[x, y, u, v] 27 (0, 0))
theorem Box4.cell0 {W : World} {B : Nat} {x y u v : Value} (h : Box4 W B x y u v) : W.cell? ⟨B, 0, none⟩ = some x := by simp [World.cell?, show W.heap[B]? = _ from h]
theorem Box4.cell1 {W : World} {B : Nat} {x y u v : Value} (h : Box4 W B x y u v) : W.cell? ⟨B, 1, none⟩ = some y := by simp [World.cell?, show W.heap[B]? = _ from h]
theorem Box4.cell2 {W : World} {B : Nat} {x y u v : Value} (h : Box4 W B x y u v) : W.cell? ⟨B, 2, none⟩ = some u := by simp [World.cell?, show W.heap[B]? = _ from h]
theorem Box4.cell3 {W : World} {B : Nat} {x y u v : Value} (h : Box4 W B x y u v) : W.cell? ⟨B, 3, none⟩ = some v := by simp [World.cell?, show W.heap[B]? = _ from h]
theorem Box4.free {W : World} {B : Nat} {x y u v : Value} (h : Box4 W B x y u v) (o : Nat) : W.frozen? ⟨B, o, none⟩ = false := by simp [World.frozen?, show W.heap[B]? = _ from h]
theorem Box4.lt {W : World} {B : Nat} {x y u v : Value} (h : Box4 W B x y u v) : B < W.heap.size := (Array.getElem?_eq_some_iff.1 h).1
theorem Box4.step {W W' : World} {B : Nat} {x y u v : Value} (h : Box4 W B x y u v) (hb : Below W.heap.size W W') : Box4 W' B x y u v := (hb.block B h.lt).trans h
theorem Box4.drew {W : World} {B : Nat} {x y u v : Value} (h : Box4 W B x y u v) : Box4 W.drew B x y u v := h
theorem Box4.new (W : World) (x y u v : Value) : Box4 (W.alloc (.cells #[x, y, u, v] 27)) W.heap.size x y u v := heap_alloc_new _ _
theorem Box4.set_ne {W : World} {B C o : Nat} {x y u v : Value} (h : Box4 W B x y u v) (hne : C ≠ B) (c : Value) : Box4 (W.setCell ⟨C, o, none⟩ c) B x y u v := by
  show (W.heap.modify C _)[B]? = _
  rw [Array.getElem?_modify, if_neg hne]; exact h
theorem Box4.set {W : World} {B : Nat} {x y u v : Value} (h : Box4 W B x y u v) (o : Nat) (c : Value) : (W.setCell ⟨B, o, none⟩ c).heap[B]? = some (.cells (#[x, y, u, v].setIfInBounds o c) 27 (0, 0)) := by
  obtain ⟨hlt, hk⟩ := Array.getElem?_eq_some_iff.1 h
  show (W.heap.modify B _)[B]? = _
  rw [Array.getElem?_eq_getElem (by rw [Array.size_modify]; exact hlt), Array.getElem_modify_self, hk]
  rfl
theorem Box4.put {W : World} {B : Nat} {x y u v : Value} (h : Box4 W B x y u v) (x' y' u' v' : Value) : Box4 ((((W.setCell ⟨B, 0, none⟩ x').setCell ⟨B, 1, none⟩ y').setCell ⟨B, 2, none⟩ u').setCell ⟨B, 3, none⟩ v') B x' y' u' v' := by
  have h0 : Box4 (W.setCell ⟨B, 0, none⟩ x') B x' y u v := h.set 0 x'
  have h1 : Box4 ((W.setCell ⟨B, 0, none⟩ x').setCell ⟨B, 1, none⟩ y') B x' y' u v := h0.set 1 y'
  have h2 : Box4 (((W.setCell ⟨B, 0, none⟩ x').setCell ⟨B, 1, none⟩ y').setCell ⟨B, 2, none⟩ u') B x' y' u' v := h1.set 2 u'
  exact h2.set 3 v'
theorem Box4.keeps {W : World} {B : Nat} {x y u v : Value} (h : Box4 W B x y u v) (hx : ∀ z, x ≠ .int .u32 z) (hy : ∀ z, y ≠ .int .u32 z) (hu : ∀ z, u ≠ .int .u32 z) (hv : ∀ z, v ≠ .int .u32 z) (x' y' u' v' : Value) : Spares W ((((W.setCell ⟨B, 0, none⟩ x').setCell ⟨B, 1, none⟩ y').setCell ⟨B, 2, none⟩ u').setCell ⟨B, 3, none⟩ v') := by
  have h0 : Box4 (W.setCell ⟨B, 0, none⟩ x') B x' y u v := h.set 0 x'
  have h1 : Box4 ((W.setCell ⟨B, 0, none⟩ x').setCell ⟨B, 1, none⟩ y') B x' y' u v := h0.set 1 y'
  have h2 : Box4 (((W.setCell ⟨B, 0, none⟩ x').setCell ⟨B, 1, none⟩ y').setCell ⟨B, 2, none⟩ u') B x' y' u' v := h1.set 2 u'
  exact (((Spares.set h.cell0 hx x').trans (Spares.set h0.cell1 hy y')).trans (Spares.set h1.cell2 hu u')).trans (Spares.set h2.cell3 hv v')
theorem Box4.other {W : World} {B C : Nat} {x y u v : Value} (h : Box4 W B x y u v) (hne : C ≠ B) (x' y' : Value) : Box4 ((W.setCell ⟨C, 0, none⟩ x').setCell ⟨C, 1, none⟩ y') B x y u v := (h.set_ne hne _).set_ne hne _
theorem Box4.other4 {W : World} {B C : Nat} {x y u v : Value} (h : Box4 W B x y u v) (hne : C ≠ B) (x' y' u' v' : Value) : Box4 ((((W.setCell ⟨C, 0, none⟩ x').setCell ⟨C, 1, none⟩ y').setCell ⟨C, 2, none⟩ u').setCell ⟨C, 3, none⟩ v') B x y u v := (((h.set_ne hne _).set_ne hne _).set_ne hne _).set_ne hne _
theorem Box.other4 {W : World} {B C : Nat} {x y : Value} (h : Box W B x y) (hne : C ≠ B) (x' y' u' v' : Value) : Box ((((W.setCell ⟨C, 0, none⟩ x').setCell ⟨C, 1, none⟩ y').setCell ⟨C, 2, none⟩ u').setCell ⟨C, 3, none⟩ v') B x y := (((h.set_ne hne _).set_ne hne _).set_ne hne _).set_ne hne _
theorem below_put4 {n : Nat} {w W : World} (h : Below n w W) {C : Nat} (hC : n ≤ C) (x' y' u' v' : Value) : Below n w ((((W.setCell ⟨C, 0, none⟩ x').setCell ⟨C, 1, none⟩ y').setCell ⟨C, 2, none⟩ u').setCell ⟨C, 3, none⟩ v') :=
  (((h.setCell (p := ⟨C, 0, none⟩) hC _).setCell (p := ⟨C, 1, none⟩) hC _).setCell (p := ⟨C, 2, none⟩) hC _).setCell (p := ⟨C, 3, none⟩) hC _

theorem int_zero0 (w : World) : IntAt w (.agg #[.bool false, .slice none 0 0]) 0 := ⟨false, 0, none, 0, by rw [lim_zero]; rfl, by rw [lim_zero]; exact Nums.nil_mk _ _ _ (Nat.zero_le _), rfl, fun _ => rfl⟩
/-- what stands for the denominator -/
def dn (q : Rat) : Int := if q.den = 1 then 0 else (q.den : Int)
/-- the struct of a fraction in lowest terms -/
def RatAt (w : World) (v : Value) (q : Rat) : Prop :=
  ∃ s m n c s' m' n' c', v = .agg #[.bool s, .slice m n c, .bool s', .slice m' n' c'] ∧ IntAt w (.agg #[.bool s, .slice m n c]) q.num ∧ IntAt w (.agg #[.bool s', .slice m' n' c']) (dn q)
theorem RatAt.below {w w' : World} {v : Value} {q : Rat} (h : RatAt w v q) (hb : Below w.heap.size w w') : RatAt w' v q := by
  obtain ⟨s, m, n, c, s', m', n', c', rfl, h1, h2⟩ := h
  exact ⟨s, m, n, c, s', m', n', c', rfl, h1.below hb, h2.below hb⟩
theorem RatAt.keep {w w' : World} {v : Value} {q : Rat} (h : RatAt w v q) (k : Spares w w') : RatAt w' v q := by
  obtain ⟨s, m, n, c, s', m', n', c', rfl, h1, h2⟩ := h
  exact ⟨s, m, n, c, s', m', n', c', rfl, h1.keep k, h2.keep k⟩
theorem RatAt.drew {w : World} {v : Value} {q : Rat} (h : RatAt w v q) : RatAt w.drew v q := h
theorem RatAt.cells {w : World} {v : Value} {q : Rat} (h : RatAt w v q) : ∃ s m n c s' m' n' c', v = .agg #[.bool s, .slice m n c, .bool s', .slice m' n' c'] ∧ RatAt w (.agg #[.bool s, .slice m n c, .bool s', .slice m' n' c']) q := by
  have h' := h
  obtain ⟨s, m, n, c, s', m', n', c', rfl, _, _⟩ := h'
  exact ⟨s, m, n, c, s', m', n', c', rfl, h⟩
theorem RatAt.num {w : World} {s s' : Bool} {m m' : Option Addr} {n c n' c' : Nat} {q : Rat} (h : RatAt w (.agg #[.bool s, .slice m n c, .bool s', .slice m' n' c']) q) : IntAt w (.agg #[.bool s, .slice m n c]) q.num := by
  obtain ⟨_, _, _, _, _, _, _, _, e, h1, h2⟩ := h
  simp only [Value.agg.injEq, Array.mk.injEq, List.cons.injEq, Value.bool.injEq, Value.slice.injEq, and_true] at e
  obtain ⟨rfl, ⟨rfl, rfl, rfl⟩, rfl, rfl, rfl, rfl⟩ := e
  exact h1
theorem RatAt.dn {w : World} {s s' : Bool} {m m' : Option Addr} {n c n' c' : Nat} {q : Rat} (h : RatAt w (.agg #[.bool s, .slice m n c, .bool s', .slice m' n' c']) q) : IntAt w (.agg #[.bool s', .slice m' n' c']) (dn q) := by
  obtain ⟨_, _, _, _, _, _, _, _, e, h1, h2⟩ := h
  simp only [Value.agg.injEq, Array.mk.injEq, List.cons.injEq, Value.bool.injEq, Value.slice.injEq, and_true] at e
  obtain ⟨rfl, ⟨rfl, rfl, rfl⟩, rfl, rfl, rfl, rfl⟩ := e
  exact h2

theorem ret_rat {fn : Func} {R : Ending → World → Prop} {a : Act} {w : World} {p : Tmp} (h : fn.results = #[.cell p 27]) (g : Nat) (x y u v : Value)
    (hp : a.tmps.getD p undef = .pointer (some ⟨g, 0, none⟩)) (hg : Box4 w g x y u v) (hd : a.defers = []) (hR : R (.returned (.agg #[x, y, u, v])) w) : bodyPost Try.prog fn R .ret a w := by
  refine bodyPost_ret ?_ hd hR
  have hp' : a.tmps[p]?.getD undef = .pointer (some ⟨g, 0, none⟩) := by simpa using hp
  simp [results, h, hp', asAddr, run_loadVar_row w g 27 27 #[x, y, u, v] (0, 0) _ hg Try.underlying27 rfl Try.infoRat]

/-- a fraction and a word are handed back -/
theorem ret_rate {fn : Func} {R : Ending → World → Prop} {a : Act} {w : World} {p k : Tmp} (h : fn.results = #[.cell p 27, .tmp k]) (g : Nat) (x y u v : Value)
    (hp : a.tmps.getD p undef = .pointer (some ⟨g, 0, none⟩)) (hg : Box4 w g x y u v) (hd : a.defers = []) (hR : R (.returned (.tuple #[.agg #[x, y, u, v], a.tmps.getD k undef])) w) : bodyPost Try.prog fn R .ret a w := by
  refine bodyPost_ret ?_ hd hR
  have hp' : a.tmps[p]?.getD undef = .pointer (some ⟨g, 0, none⟩) := by simpa using hp
  simp [results, h, hp', asAddr, run_loadVar_row w g 27 27 #[x, y, u, v] (0, 0) _ hg Try.underlying27 rfl Try.infoRat]

theorem dn_int (z : Int) : dn (z : Rat) = 0 := by simp [dn]
theorem sgn_zero (z : Int) : (sgnI z == 0) = decide (z = 0) := by unfold sgnI; split; simp; omega; split <;> simp <;> omega

set_option maxRecDepth 100000 in
set_option maxHeartbeats 400000 in
theorem whole_any (v : Value) (z : Int) (w : World) (h : IntAt w v z) :
    Calls Try.prog 31 #[v] w fun e w' => ∃ v', e = .returned v' ∧ RatAt w' v' (z : Rat) ∧ Below w.heap.size w w' := by
  obtain ⟨s, m, n, c, rfl, h'⟩ := h.cells
  have HI := hide h'
  clear h h'
  go_enter Try.func31, Try.ntmps31
  go_wp2
  have hb := below_alloc (w.alloc (.cells #[.bool s, .slice m n c] 25)) (.cells #[.bool s, .slice m n c, .bool false, .slice none 0 0] 27)
  have hX := Box4.new (w.alloc (.cells #[.bool s, .slice m n c] 25)) (.bool s) (.slice m n c) (.bool false) (.slice none 0 0)
  rw [World.size_alloc] at hX
  refine ret_rat rfl (w.heap.size + 1) _ _ _ _ rfl hX rfl ?_
  exact ⟨_, rfl, ⟨s, m, n, c, false, none, 0, 0, rfl, (HI.out.below (below_alloc _ _)).below hb, by rw [dn_int]; exact int_zero0 _⟩, (below_alloc _ _).trans (hb.mono (by simp))⟩
set_option maxRecDepth 100000 in
set_option maxHeartbeats 400000 in
theorem rsgn_any (v : Value) (q : Rat) (w : World) (h : RatAt w v q) :
    Calls Try.prog 16 #[v] w fun e w' => e = .returned (.int .i64 (sgnI q.num)) ∧ Below w.heap.size w w' := by
  obtain ⟨s, m, n, c, s', m', n', c', rfl, h'⟩ := h.cells
  have HI := hide h'.num
  clear h h'
  go_enter Try.func16, Try.ntmps16
  go_wp2_with fail
  refine (isign_any _ q.num _ (HI.out.below (below_alloc _ _))).mono ?_
  rintro e w1 ⟨rfl, hb⟩
  go_wp2
  go_ret
  exact ⟨rfl, (below_alloc _ _).trans (hb.mono (by simp))⟩
theorem dn_zero (q : Rat) : decide (dn q = 0) = decide (q.den = 1) := by
  have := q.den_nz
  unfold dn
  by_cases h : q.den = 1
  · simp [h]
  · simp [h]; omega
set_option maxRecDepth 100000 in
set_option maxHeartbeats 400000 in
theorem iswhole_any (v : Value) (q : Rat) (w : World) (h : RatAt w v q) :
    Calls Try.prog 15 #[v] w fun e w' => e = .returned (.bool (decide (q.den = 1))) ∧ Below w.heap.size w w' := by
  obtain ⟨s, m, n, c, s', m', n', c', rfl, h'⟩ := h.cells
  have HI := hide h'.dn
  clear h h'
  go_enter Try.func15, Try.ntmps15
  go_wp2_with fail
  refine (isign_any _ (dn q) _ (HI.out.below (below_alloc _ _))).mono ?_
  rintro e w1 ⟨rfl, hb⟩
  go_wp2
  go_ret
  refine ⟨?_, (below_alloc _ _).trans (hb.mono (by simp))⟩
  rw [← dn_zero, ← sgn_zero]
  rfl
set_option maxRecDepth 100000 in
set_option maxHeartbeats 1000000 in
theorem den_any (v : Value) (q : Rat) (w : World) (h : RatAt w v q) :
    Calls Try.prog 13 #[v] w fun e w' => ∃ v', e = .returned v' ∧ IntAt w' v' (q.den : Int) ∧ Below w.heap.size w w' := by
  obtain ⟨s, m, n, c, s', m', n', c', rfl, h'⟩ := h.cells
  have HR := hide h'
  clear h h'
  have HE : Hid (Box4 ((w.alloc (.cells #[.bool s, .slice m n c, .bool s', .slice m' n' c'] 27)).alloc (.cells #[.bool false, .slice none 0 0] 25)) w.heap.size (.bool s) (.slice m n c) (.bool s') (.slice m' n' c') ∧
      Box ((w.alloc (.cells #[.bool s, .slice m n c, .bool s', .slice m' n' c'] 27)).alloc (.cells #[.bool false, .slice none 0 0] 25)) (w.heap.size + 1) (.bool false) (.slice none 0 0) ∧
      Below w.heap.size w ((w.alloc (.cells #[.bool s, .slice m n c, .bool s', .slice m' n' c'] 27)).alloc (.cells #[.bool false, .slice none 0 0] 25))) :=
    hide ⟨(Box4.new _ _ _ _ _).step (below_alloc _ _), by have := Box.new (w.alloc (.cells #[.bool s, .slice m n c, .bool s', .slice m' n' c'] 27)) (.bool false) (.slice none 0 0); rwa [World.size_alloc] at this, (below_alloc _ _).trans ((below_alloc _ _).mono (by simp))⟩
  replace HR := hide (HR.out.below HE.out.2.2)
  go_enter Try.func13, Try.ntmps13
  go_wp2_with fail
  refine (iswhole_any _ q _ HR.out).mono ?_
  rintro e w1 ⟨rfl, hb⟩
  have P0 := hide (HE.out.1.step hb)
  have P1 := hide (HE.out.2.1.step hb)
  have HB := hide (HE.out.2.2.trans (hb.mono HE.out.2.2.size))
  replace HR := hide (HR.out.below hb)
  clear hb HE
  by_cases hd : q.den = 1
  · have hdd : decide (q.den = 1) = true := by simpa using hd
    rw [hdd]
    clear hdd
    have HD := hide hd
    clear hd
    go_wp2_with fail
    refine (iof_any 1 _ (by decide) (by decide)).mono ?_
    rintro e w2 ⟨v, rfl, ⟨b', n', a', c', rfl, hn', he, h0⟩, hb⟩
    replace P1 := hide (P1.out.step hb)
    replace HB := hide (HB.out.trans (hb.mono HB.out.size))
    have hc0 := P1.out.cell0
    have hc1 := P1.out.cell1
    have hf0 := P1.out.free 0
    have hf1 := P1.out.free 1
    clear hb
    go_wp2
    refine ret_int rfl (w.heap.size + 1) _ _ _ _ rfl ((P1.out.set0 _).set1 _) rfl ?_
    exact handed P1.out (by simp) (by simp) (by omega) HB.out hn' (by rw [← he, HD.out]; rfl) h0
  · have hdd : decide (q.den = 1) = false := by simpa using hd
    rw [hdd]
    clear hdd
    have HV : Hid (IntAt w1 (.agg #[.bool s', .slice m' n' c']) (q.den : Int)) := hide (by have := HR.out.dn; rwa [dn, if_neg hd] at this)
    have q2 := P0.out.cell2
    have q3 := P0.out.cell3
    have hc0 := P1.out.cell0
    have hc1 := P1.out.cell1
    have hf0 := P1.out.free 0
    have hf1 := P1.out.free 1
    clear hd
    go_wp2
    refine ret_int rfl (w.heap.size + 1) _ _ _ _ rfl (P1.out.put _ _) rfl ?_
    exact ⟨_, rfl, HV.out.keep (P1.out.keeps (by simp) (by simp) _ _), below_put HB.out (by omega) _ _⟩

set_option maxRecDepth 100000 in
set_option maxHeartbeats 1000000 in
theorem quotient_any (v1 v2 : Value) (x y : Int) (w : World) (h1 : IntAt w v1 x) (h2 : IntAt w v2 y) (l1 : (lim x.natAbs).length ≤ 1000000000) (l2 : (lim y.natAbs).length ≤ 1000000000) (hy : y ≠ 0) :
    Calls Try.prog 42 #[v1, v2] w fun e w' => ∃ v', e = .returned v' ∧ IntAt w' v' (x / y) ∧ Below w.heap.size w w' := by
  have I1 := hide h1
  have I2 := hide h2
  obtain ⟨b1, m1, n1, c1, rfl, _⟩ := h1.cells
  obtain ⟨b2, m2, n2, c2, rfl, _⟩ := h2.cells
  clear h1 h2
  have HE := hide (boxes3 w (.bool b1) (.slice m1 n1 c1) (.bool b2) (.slice m2 n2 c2) (.bool false) (.slice none 0 0))
  replace I1 := hide (I1.out.below HE.out.2.2.2)
  replace I2 := hide (I2.out.below HE.out.2.2.2)
  go_enter Try.func42, Try.ntmps42
  go_wp2_with fail
  refine (idivmod_any _ _ x y _ I1.out I2.out l1 l2 hy).mono ?_
  rintro e w1 ⟨q, r, rfl, hq, hr, hb⟩
  obtain ⟨sq, mq, nq, cq, rfl, hq⟩ := hq.cells
  obtain ⟨sr, mr, nr, cr, rfl, hr⟩ := hr.cells
  have P := hide (HE.out.2.2.1.step hb)
  have HB := hide (HE.out.2.2.2.trans (hb.mono HE.out.2.2.2.size))
  have HQ := hide hq
  clear hq hr hb HE I1 I2
  have al := (boxes2 w1 (.bool sq) (.slice mq nq cq) (.bool sr) (.slice mr nr cr)).2.2
  replace P := hide (P.out.step al)
  replace HB := hide (HB.out.trans (al.mono HB.out.size))
  replace HQ := hide (HQ.out.below al)
  clear al
  have hc0 := P.out.cell0
  have hc1 := P.out.cell1
  have hf0 := P.out.free 0
  have hf1 := P.out.free 1
  go_wp2
  refine ret_int rfl (w.heap.size + 1 + 1) _ _ _ _ rfl (P.out.put _ _) rfl ?_
  exact ⟨_, rfl, HQ.out.keep (P.out.keeps (by simp) (by simp) _ _), below_put HB.out (by omega) _ _⟩
end Go.Proofs.Ytgkibmigbjjnnaa
