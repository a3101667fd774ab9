/- Plain numbers: what a list of limbs says ('val'), and the one list without high noughts that says a number ('lim'). Nothing of the program. -/
import Derived.WalkKit
namespace Go.Proofs.Ytheakienigmkhaa

def BB : Nat := 4294967296
theorem BB_pos : 0 < BB := by decide

def val : List Nat → Nat
  | [] => 0
  | x :: xs => x + BB * val xs

def lm (xs : List Nat) (i : Nat) : Nat := xs.getD i 0

def Ok (xs : List Nat) : Prop := ∀ x ∈ xs, x < BB

def limF : Nat → Nat → List Nat
  | 0, _ => []
  | f + 1, n => if n = 0 then [] else (n % BB) :: limF f (n / BB)

def lim (n : Nat) : List Nat := limF n n

theorem limF_enough : ∀ f g n, n ≤ f → n ≤ g → limF f n = limF g n := by
  intro f
  induction f with
  | zero => intro g n h1 h2; have : n = 0 := by omega
            subst this; cases g <;> simp [limF]
  | succ f ih =>
    intro g n h1 h2
    by_cases h : n = 0
    · subst h; cases g <;> simp [limF]
    · cases g with
      | zero => omega
      | succ g =>
        have hd : n / BB < n := Nat.div_lt_self (by omega) (by decide)
        simp only [limF, h, if_false]
        rw [ih g (n / BB) (by omega) (by omega)]

theorem lim_zero : lim 0 = [] := rfl
theorem lim_pos {n : Nat} (h : 0 < n) : lim n = (n % BB) :: lim (n / BB) := by
  unfold lim
  cases n with
  | zero => omega
  | succ m =>
    have hd : (m + 1) / BB < m + 1 := Nat.div_lt_self (by omega) (by decide)
    simp only [limF, Nat.succ_ne_zero, if_false]
    rw [limF_enough m ((m + 1) / BB) ((m + 1) / BB) (by omega) (Nat.le_refl _)]

theorem lim_ind {p : Nat → Prop} (h0 : p 0) (h1 : ∀ n, 0 < n → p (n / BB) → p n) (n : Nat) : p n := by
  refine Nat.strongRecOn n (fun n ih => ?_)
  by_cases h : n = 0
  · subst h; exact h0
  · exact h1 n (by omega) (ih _ (Nat.div_lt_self (by omega) (by decide)))

theorem val_lim (n : Nat) : val (lim n) = n := by
  refine lim_ind (p := fun n => val (lim n) = n) rfl (fun n hn ih => ?_) n
  rw [lim_pos hn]; simp only [val]; rw [ih]; exact Nat.mod_add_div n BB

theorem ok_lim (n : Nat) : Ok (lim n) := by
  refine lim_ind (p := fun n => Ok (lim n)) (by intro x hx; cases hx) (fun n hn ih => ?_) n
  rw [lim_pos hn]; intro x hx
  rcases List.mem_cons.1 hx with rfl | h
  · exact Nat.mod_lt _ BB_pos
  · exact ih x h

theorem Ok.nil : Ok [] := by intro x hx; cases hx
theorem Ok.cons {x : Nat} {xs : List Nat} (h : x < BB) (k : Ok xs) : Ok (x :: xs) := by
  intro y hy; rcases List.mem_cons.1 hy with rfl | h'
  · exact h
  · exact k y h'
theorem Ok.tail {x : Nat} {xs : List Nat} (h : Ok (x :: xs)) : Ok xs := fun y hy => h y (List.mem_cons_of_mem _ hy)
theorem Ok.head {x : Nat} {xs : List Nat} (h : Ok (x :: xs)) : x < BB := h x (List.mem_cons_self ..)
theorem Ok.at {xs : List Nat} (h : Ok xs) (i : Nat) : lm xs i < BB := by
  unfold lm
  by_cases hi : i < xs.length
  · rw [List.getD_eq_getElem?_getD, List.getElem?_eq_getElem hi]; exact h _ (List.getElem_mem hi)
  · rw [List.getD_eq_getElem?_getD, List.getElem?_eq_none (by omega)]; exact BB_pos
theorem Ok.take {xs : List Nat} (h : Ok xs) (k : Nat) : Ok (xs.take k) := fun x hx => h x (List.mem_of_mem_take hx)
theorem Ok.drop {xs : List Nat} (h : Ok xs) (k : Nat) : Ok (xs.drop k) := fun x hx => h x (List.mem_of_mem_drop hx)
theorem Ok.append {xs ys : List Nat} (h : Ok xs) (k : Ok ys) : Ok (xs ++ ys) := by
  intro x hx; rcases List.mem_append.1 hx with h' | h'
  · exact h x h'
  · exact k x h'
theorem Ok.set {xs : List Nat} (h : Ok xs) (i x : Nat) (hx : x < BB) : Ok (xs.set i x) := by
  intro y hy; rcases List.mem_or_eq_of_mem_set hy with h' | h'
  · exact h y h'
  · rw [h']; exact hx

theorem val_append (xs ys : List Nat) : val (xs ++ ys) = val xs + BB ^ xs.length * val ys := by
  induction xs with
  | nil => simp [val]
  | cons x xs ih => simp only [List.cons_append, val, List.length_cons, ih, Nat.pow_succ, Nat.mul_add, Nat.add_assoc]; congr 2; rw [← Nat.mul_assoc, Nat.mul_comm BB]

theorem val_lt {xs : List Nat} (h : Ok xs) : val xs < BB ^ xs.length := by
  induction xs with
  | nil => simp [val]
  | cons x xs ih =>
    have h1 := ih h.tail
    have h2 := h.head
    simp only [val, List.length_cons, Nat.pow_succ]
    have : BB * (val xs + 1) ≤ BB * BB ^ xs.length := Nat.mul_le_mul_left _ h1
    rw [Nat.mul_add, Nat.mul_one] at this
    rw [Nat.mul_comm (BB ^ xs.length)]
    omega

theorem val_replicate (n : Nat) : val (List.replicate n 0) = 0 := by
  induction n with
  | zero => rfl
  | succ n ih => simp [List.replicate_succ, val, ih]

/-- a list whose last limb is not 0 is the list of its number -/
theorem lim_val {xs : List Nat} (h : Ok xs) (hl : ∀ x, xs.getLast? = some x → x ≠ 0) : lim (val xs) = xs := by
  induction xs with
  | nil => rfl
  | cons x xs ih =>
    have h1 := h.head
    have hpos : 0 < val (x :: xs) := by
      simp only [val]
      by_cases hx : xs = []
      · subst hx; have := hl x (by simp); omega
      · have ht : lim (val xs) = xs := ih h.tail (fun y hy => hl y (by rw [List.getLast?_cons_of_ne_nil hx]; exact hy))
        have : val xs ≠ 0 := by intro e; rw [e, lim_zero] at ht; exact hx ht.symm
        have : 0 < BB * val xs := Nat.mul_pos BB_pos (by omega)
        omega
    have hm : val (x :: xs) % BB = x := by simp only [val]; rw [Nat.add_mul_mod_self_left]; exact Nat.mod_eq_of_lt h1
    have hd : val (x :: xs) / BB = val xs := by simp only [val]; rw [Nat.add_mul_div_left _ _ BB_pos, Nat.div_eq_of_lt h1, Nat.zero_add]
    rw [lim_pos hpos, hm, hd]
    by_cases hx : xs = []
    · subst hx; rfl
    · rw [ih h.tail (fun y hy => hl y (by rw [List.getLast?_cons_of_ne_nil hx]; exact hy))]

theorem val_eq_zero {xs : List Nat} (h : val xs = 0) : ∀ i, lm xs i = 0 := by
  unfold lm
  induction xs with
  | nil => intro i; simp
  | cons x xs ih =>
    simp only [val] at h
    have hx : x = 0 := by omega
    have hm : BB * val xs = 0 := by omega
    have hv : val xs = 0 := by rcases Nat.mul_eq_zero.1 hm with h' | h'
                               · exact absurd h' (by decide)
                               · exact h'
    intro i; cases i with
    | zero => simpa using hx
    | succ i => simpa using ih hv i

theorem take_succ_val (xs : List Nat) (k : Nat) (h : k < xs.length) : val (xs.take (k + 1)) = val (xs.take k) + BB ^ k * lm xs k := by
  unfold lm
  rw [List.take_succ_eq_append_getElem h, val_append, List.length_take, Nat.min_eq_left (by omega)]
  simp [val, h]

/-- what trim ends with -/
theorem take_lim {xs : List Nat} {k : Nat} (h : Ok xs) (hk : k ≤ xs.length) (hv : val (xs.take k) = val xs) (hz : k = 0 ∨ lm xs (k - 1) ≠ 0) : xs.take k = lim (val xs) := by
  unfold lm at hz
  rw [← hv]
  refine (lim_val (h.take k) (fun x hx => ?_)).symm
  rcases hz with rfl | hz
  · simp at hx
  · by_cases h0 : k = 0
    · subst h0; simp at hx
    · rw [List.getLast?_eq_getElem?, List.length_take, Nat.min_eq_left hk, List.getElem?_take, if_pos (by omega)] at hx
      rw [List.getD_eq_getElem?_getD, hx] at hz
      simpa using hz

theorem lm_take (xs : List Nat) (k i : Nat) (h : i < k) : lm (xs.take k) i = lm xs i := by
  unfold lm; rw [List.getD_eq_getElem?_getD, List.getD_eq_getElem?_getD, List.getElem?_take, if_pos h]
theorem lm_get (xs : List Nat) (i : Nat) (h : i < xs.length) : lm xs i = xs[i] := by
  unfold lm; simp [h]
theorem lm_over (xs : List Nat) (i : Nat) (h : xs.length ≤ i) : lm xs i = 0 := by
  unfold lm; simp [h]

theorem lim_inj {m n : Nat} (h : lim m = lim n) : m = n := by rw [← val_lim m, h, val_lim]

theorem lim_length_le {n k : Nat} (h : n < BB ^ k) : (lim n).length ≤ k := by
  induction k generalizing n with
  | zero => have : n = 0 := by simpa using h
            subst this; simp [lim_zero]
  | succ k ih =>
    by_cases h0 : n = 0
    · subst h0; simp [lim_zero]
    · rw [lim_pos (by omega), List.length_cons]
      have : n / BB < BB ^ k := by rw [Nat.div_lt_iff_lt_mul BB_pos]; rw [Nat.pow_succ] at h; exact h
      have := ih this; omega

theorem lim_val_length {xs : List Nat} (h : Ok xs) : (lim (val xs)).length ≤ xs.length := lim_length_le (val_lt h)

theorem lim_len_lt {m n : Nat} (h : (lim m).length < (lim n).length) : m < n := by
  by_cases hm : m < n
  · exact hm
  · have h1 : n < BB ^ (lim m).length := Nat.lt_of_le_of_lt (Nat.le_of_not_lt hm) (by have := val_lt (ok_lim m); rw [val_lim] at this; exact this)
    have := lim_length_le h1; omega

end Go.Proofs.Ytheakienigmkhaa
