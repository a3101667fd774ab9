/- The document's answers for layer 2 (swageref02): divide. -/
import Derived.Test.YtgkibmigbjjnnaaR2Law
import Derived.Test.YtgkibmigbjjnnaaDivMod
import Derived.Test.YtgkibmigbjjnnaaSeg
import Derived.Laws.BitsAllLaws
import Derived.RegionTactic
namespace Go.Proofs.Ytgkibmigbjjnnaa
open Go.RowKit

/-- what is owned stays so under norm -/
theorem Own.norm {w w' : World} {base k : Nat} {v l : Value} {xs : List Nat} (h : Own w base v xs) (hc : Cut v l k) (hk : k ≤ xs.length) (ht : xs.take k = D.lim (D.val xs)) (hb : Below w.heap.size w w') : Own w' base l (D.lim (D.val xs)) := by
  rw [← ht]; exact (h.cut k hk hc).below hb
end Go.Proofs.Ytgkibmigbjjnnaa

namespace Go.Proofs.Ytgkibmigbjjnnaa
open Go.RowKit

/-- a division's state with k digits to go -/
structure DDiv (xs : List Nat) (d k r : Nat) (qs : List Nat) : Prop where
  len : qs.length = xs.length - k
  ok : D.Ok qs
  r1 : r < d
  sum : D.val (xs.drop k) = d * D.val qs + r
theorem ddrop_val (xs : List Nat) (k : Nat) (h : k < xs.length) : D.val (xs.drop k) = lm xs k + 65536 * D.val (xs.drop (k + 1)) := by
  rw [List.drop_eq_getElem_cons h, lm_get _ _ h]; simp [D.val, D.BB]
theorem DDiv.start (xs : List Nat) (d : Nat) (hd : 0 < d) : DDiv xs d xs.length 0 [] := ⟨by simp, D.Ok.nil, hd, by simp [D.val]⟩
theorem dquo_lt {r x d : Nat} (hd : 0 < d) (hr : r < d) (hx : x < 65536) : (r * 65536 + x) / d < 65536 := by
  rw [Nat.div_lt_iff_lt_mul hd]
  have h1 : (r + 1) * 65536 ≤ d * 65536 := Nat.mul_le_mul_right _ hr
  omega
theorem DDiv.step {xs : List Nat} {d k r : Nat} {qs : List Nat} (h : DDiv xs d (k + 1) r qs) (hx : D.Ok xs) (hk : k < xs.length) :
    DDiv xs d k ((r * 65536 + lm xs k) % d) ((r * 65536 + lm xs k) / d :: qs) := by
  have hr := h.r1
  have hd : 0 < d := by omega
  refine ⟨by simp [h.len]; omega, D.Ok.cons (dquo_lt hd hr (dlm_lt hx k)) h.ok, Nat.mod_lt _ hd, ?_⟩
  rw [ddrop_val xs k hk, h.sum]
  simp only [D.val, D.BB]
  have e := Nat.div_add_mod (r * 65536 + lm xs k) d
  have e2 : d * ((r * 65536 + lm xs k) / d + 65536 * D.val qs) = d * ((r * 65536 + lm xs k) / d) + 65536 * (d * D.val qs) := by rw [Nat.mul_add, Nat.mul_left_comm]
  omega
theorem RInt.digits {w : World} {v : Value} {n : Nat} (h : RInt w v (sg false n)) : ∃ l, v = .agg #[.bool false, l] ∧ Nums w l (D.lim n) := by
  obtain ⟨b, k, a, c, rfl, hn, he, h0⟩ := h
  have e : k = n := by have := congrArg Int.natAbs he; rw [sg_abs, sg_abs] at this; exact this.symm
  subst e
  cases b with
  | false => exact ⟨_, rfl, hn⟩
  | true =>
    have : k ≠ 0 := fun e => absurd (h0 e) (by decide)
    rw [sg_true, sg_false] at he
    omega
end Go.Proofs.Ytgkibmigbjjnnaa

namespace Go.Proofs.Ytgkibmigbjjnnaa
open Go.RowKit

/-- the bits of a digit, counted one by one -/
structure DCnt (t i x : Nat) : Prop where
  eq : x = t / 2 ^ i
  pos : 1 ≤ i → 0 < t / 2 ^ (i - 1)
theorem DCnt.step {t i x : Nat} (h : DCnt t i x) (hx : 0 < x) : DCnt t (i + 1) (x / 2) :=
  ⟨by rw [h.eq, Nat.div_div_eq_div_mul, ← Nat.pow_succ], fun _ => by rw [Nat.add_sub_cancel, ← h.eq]; exact hx⟩
theorem DCnt.end {t i : Nat} (h : DCnt t i 0) : IsLen t i := by
  have hp : 0 < 2 ^ i := Nat.two_pow_pos i
  have h1 : t < 2 ^ i := by
    have := h.eq
    rcases Nat.lt_or_ge t (2 ^ i) with h' | h'
    · exact h'
    · have := Nat.div_pos h' hp; omega
  refine ⟨h1, fun ht => ?_⟩
  rcases Nat.eq_zero_or_pos i with e | e
  · rw [e] at h1; simp at h1; omega
  · have := h.pos e
    exact ⟨e, (Nat.div_pos_iff.1 this).2⟩
theorem dbb_pow (n : Nat) : D.BB ^ n = 2 ^ (16 * n) := by rw [show D.BB = 2 ^ 16 from rfl, ← Nat.pow_mul]
theorem dtop_div {L : List Nat} {n : Nat} (ho : D.Ok L) (h : L.length = n + 1) : D.val L / 2 ^ (16 * n) = lm L n := by
  have e : D.val L = D.val (L.take n) + 65536 ^ n * lm L n := by rw [← dtake_succ, List.take_of_length_le (by omega)]
  have hl := D.val_lt (ho.take n)
  rw [List.length_take, Nat.min_eq_left (by omega), dbb_pow] at hl
  have hB : 65536 ^ n = 2 ^ (16 * n) := dbb_pow n
  rw [hB] at e
  rw [e, Nat.add_mul_div_left _ _ (Nat.two_pow_pos _), Nat.div_eq_of_lt hl, Nat.zero_add]
end Go.Proofs.Ytgkibmigbjjnnaa

namespace Go.Proofs.Ytgkibmigbjjnnaa
open Go.RowKit

/-- twice a number, and one more perhaps: behind i digits -/
structure DDbl (xs : List Nat) (c0 i c : Nat) (A : List Nat) : Prop where
  len : A.length = i
  ok : D.Ok A
  c1 : c ≤ 1
  sum : D.val A + 65536 ^ i * c = 2 * D.val (xs.take i) + c0
theorem DDbl.zero (xs : List Nat) (c0 : Nat) (h : c0 ≤ 1) : DDbl xs c0 0 c0 [] := ⟨rfl, D.Ok.nil, h, by simp [D.val]⟩
theorem DDbl.step {xs : List Nat} {c0 i c : Nat} {A : List Nat} (h : DDbl xs c0 i c A) (hx : D.Ok xs) : DDbl xs c0 (i + 1) ((c + 2 * lm xs i) / 65536) (A ++ [(c + 2 * lm xs i) % 65536]) := by
  have h1 := dlm_lt hx i
  have h2 := h.c1
  refine ⟨by simp [h.len], h.ok.append (D.Ok.cons (Nat.mod_lt _ (by decide)) D.Ok.nil), by omega, ?_⟩
  have hs := h.sum
  have em := Nat.mod_add_div (c + 2 * lm xs i) 65536
  rw [D.val_append, h.len, dtake_succ, Nat.pow_succ]
  simp only [D.val, Nat.mul_zero, Nat.add_zero]
  show D.val A + 65536 ^ i * ((c + 2 * lm xs i) % 65536) + 65536 ^ i * 65536 * ((c + 2 * lm xs i) / 65536) = 2 * (D.val (xs.take i) + 65536 ^ i * lm xs i) + c0
  have e : 65536 ^ i * ((c + 2 * lm xs i) % 65536) + 65536 ^ i * 65536 * ((c + 2 * lm xs i) / 65536) = 65536 ^ i * c + 2 * (65536 ^ i * lm xs i) := by
    rw [Nat.mul_assoc, ← Nat.mul_add, em, Nat.mul_add, Nat.mul_left_comm]
  omega
theorem dlim_of {A : List Nat} (h : D.Ok A) (hl : A = [] ∨ 65536 ^ (A.length - 1) ≤ D.val A) : D.lim (D.val A) = A := by
  refine D.lim_val h (fun x hx => ?_)
  rcases hl with rfl | hl
  · simp at hx
  · rintro rfl
    have hne : A ≠ [] := by rintro rfl; simp at hx
    have e := List.dropLast_concat_getLast hne
    have e2 : A.getLast hne = 0 := by rw [List.getLast?_eq_some_getLast hne] at hx; simpa using hx
    rw [e2] at e
    have h1 : D.val A = D.val A.dropLast := by
      conv => lhs; rw [← e]
      rw [D.val_append]; simp [D.val]
    have h2 : D.val A.dropLast < D.BB ^ A.dropLast.length := D.val_lt (fun y hy => h y (List.dropLast_subset A hy))
    rw [List.length_dropLast] at h2
    have h3 : D.BB ^ (A.length - 1) = 65536 ^ (A.length - 1) := rfl
    omega
theorem dlim_lo {R : Nat} (h : 0 < R) : 65536 ^ ((D.lim R).length - 1) ≤ R := by
  have hp : 0 < (D.lim R).length := by rw [D.lim_pos h]; simp
  have ht := dtop_div (L := D.lim R) (n := (D.lim R).length - 1) (D.ok_lim R) (by omega)
  rw [D.val_lim] at ht
  have hn := dlim_last hp
  rw [← ht] at hn
  have := (Nat.div_pos_iff.1 (Nat.pos_of_ne_zero hn)).2
  rw [← dbb_pow] at this
  exact this
/-- the digits of twice a number, and one more perhaps -/
theorem DDbl.end {R c0 c : Nat} {A : List Nat} (h : DDbl (D.lim R) c0 (D.lim R).length c A) : (c = 0 → A = D.lim (2 * R + c0)) ∧ (c ≠ 0 → A ++ [c] = D.lim (2 * R + c0)) := by
  have hs := h.sum
  rw [List.take_length, D.val_lim] at hs
  have hc := h.c1
  constructor
  · intro h0
    rw [h0, Nat.mul_zero, Nat.add_zero] at hs
    rw [← hs]
    refine (dlim_of h.ok ?_).symm
    rcases Nat.eq_zero_or_pos R with hR | hR
    · left
      have : A.length = 0 := by rw [h.len, hR]; rfl
      exact List.length_eq_zero_iff.1 this
    · right
      rw [h.len, hs]
      have := dlim_lo hR
      omega
  · intro h1
    have e1 : c = 1 := by omega
    subst e1
    rw [Nat.mul_one] at hs
    have e2 : D.val (A ++ [1]) = 2 * R + c0 := by
      rw [D.val_append, h.len, ← hs]; simp [D.val, D.BB]
    rw [← e2]
    refine (dlim_of (h.ok.append (D.Ok.cons (by decide) D.Ok.nil)) (.inr ?_)).symm
    rw [D.val_append, List.length_append]
    simp [D.val, D.BB]
theorem RowC.kept {w w' : World} {base g n cap : Nat} {row : Option Nat} {xs : List Nat} (h : RowC w base g n cap xs) (hg : w.grownBy w' row) (hne : row ≠ some g) : RowC w' base g n cap xs :=
  World.ownsRow.kept h hg (.inr (fun e => hne (by rw [← e]; rfl)))
theorem RowC.other {w : World} {base g n cap g' o : Nat} {xs : List Nat} {v : Value} (h : RowC w base g n cap xs) (hne : g' ≠ g) : RowC (w.setCell ⟨g', o, none⟩ v) base g n cap xs :=
  RowC.kept (row := some g') h ⟨rfl, rfl, rfl, by simp, fun k _ hk => by
    show (w.heap.modify g' _)[k]? = _
    rw [Array.getElem?_modify]
    have : g' ≠ k := fun e => hk (by rw [e])
    simp [this]⟩ (by simp [hne])
end Go.Proofs.Ytgkibmigbjjnnaa

namespace Go.Proofs.Ytgkibmigbjjnnaa
open Go.RowKit

theorem Own.lt2 {w : World} {base : Nat} {v : Value} {xs : List Nat} (h : Own w base v xs) : ∀ k, v.ownBlock = some k → base ≤ k ∧ k < w.heap.size := World.ownsRow.lt h
theorem Own.other {w : World} {base g o : Nat} {v u : Value} {xs : List Nat} (h : Own w base v xs) (hg : g < base) : Own (w.setCell ⟨g, o, none⟩ u) base v xs :=
  World.ownsRow.kept (row := some g) h ⟨rfl, rfl, rfl, by simp, fun k _ hk => by
    show (w.heap.modify g _)[k]? = _
    rw [Array.getElem?_modify]
    have : g ≠ k := fun e => hk (by rw [e])
    simp [this]⟩ (.inr (fun e => by have := (Own.lt2 h g e).1; omega))
theorem RowC.lt2 {w : World} {base g n cap : Nat} {xs : List Nat} (h : RowC w base g n cap xs) : g < w.heap.size := (World.ownsRow.lt h g rfl).2

end Go.Proofs.Ytgkibmigbjjnnaa
