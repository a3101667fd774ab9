/- The document's answers for layer 2 (swageref02): Of. -/
import Derived.Test.YtenmogmdijnlhaaDoorMem
import Derived.Test.YtenmogmdijnlhaaDoorIVar
import Derived.Test.YtenmogmdijnlhaaDoorNorm
import Derived.Test.YtenmogmdijnlhaaDoorCalm
namespace Go.Proofs.YtenmogmdijnlhaaDoor.D

def BB : Nat := 65536
theorem BB_pos : 0 < BB := by decide

def val : List Nat → Nat
  | [] => 0
  | x :: xs => x + BB * val xs

def lm (xs : List Nat) (i : Nat) : Nat := xs.getD i 0

def Ok (xs : List Nat) : Prop := ∀ x ∈ xs, x < BB

def limF : Nat → Nat → List Nat
  | 0, _ => []
  | f + 1, n => if n = 0 then [] else (n % BB) :: limF f (n / BB)

def lim (n : Nat) : List Nat := limF n n

theorem limF_enough : ∀ f g n, n ≤ f → n ≤ g → limF f n = limF g n := by
  intro f
  induction f with
  | zero => intro g n h1 h2; have : n = 0 := by omega
            subst this; cases g <;> simp [limF]
  | succ f ih =>
    intro g n h1 h2
    by_cases h : n = 0
    · subst h; cases g <;> simp [limF]
    · cases g with
      | zero => omega
      | succ g =>
        have hd : n / BB < n := Nat.div_lt_self (by omega) (by decide)
        simp only [limF, h, if_false]
        rw [ih g (n / BB) (by omega) (by omega)]

theorem lim_zero : lim 0 = [] := rfl
theorem lim_pos {n : Nat} (h : 0 < n) : lim n = (n % BB) :: lim (n / BB) := by
  unfold lim
  cases n with
  | zero => omega
  | succ m =>
    have hd : (m + 1) / BB < m + 1 := Nat.div_lt_self (by omega) (by decide)
    simp only [limF, Nat.succ_ne_zero, if_false]
    rw [limF_enough m ((m + 1) / BB) ((m + 1) / BB) (by omega) (Nat.le_refl _)]

theorem lim_ind {p : Nat → Prop} (h0 : p 0) (h1 : ∀ n, 0 < n → p (n / BB) → p n) (n : Nat) : p n := by
  refine Nat.strongRecOn n (fun n ih => ?_)
  by_cases h : n = 0
  · subst h; exact h0
  · exact h1 n (by omega) (ih _ (Nat.div_lt_self (by omega) (by decide)))

theorem val_lim (n : Nat) : val (lim n) = n := by
  refine lim_ind (p := fun n => val (lim n) = n) rfl (fun n hn ih => ?_) n
  rw [lim_pos hn]; simp only [val]; rw [ih]; exact Nat.mod_add_div n BB

theorem ok_lim (n : Nat) : Ok (lim n) := by
  refine lim_ind (p := fun n => Ok (lim n)) (by intro x hx; cases hx) (fun n hn ih => ?_) n
  rw [lim_pos hn]; intro x hx
  rcases List.mem_cons.1 hx with rfl | h
  · exact Nat.mod_lt _ BB_pos
  · exact ih x h

theorem Ok.nil : Ok [] := by intro x hx; cases hx
theorem Ok.cons {x : Nat} {xs : List Nat} (h : x < BB) (k : Ok xs) : Ok (x :: xs) := by
  intro y hy; rcases List.mem_cons.1 hy with rfl | h'
  · exact h
  · exact k y h'
theorem Ok.tail {x : Nat} {xs : List Nat} (h : Ok (x :: xs)) : Ok xs := fun y hy => h y (List.mem_cons_of_mem _ hy)
theorem Ok.head {x : Nat} {xs : List Nat} (h : Ok (x :: xs)) : x < BB := h x (List.mem_cons_self ..)
theorem Ok.at {xs : List Nat} (h : Ok xs) (i : Nat) : lm xs i < BB := by
  unfold lm
  by_cases hi : i < xs.length
  · rw [List.getD_eq_getElem?_getD, List.getElem?_eq_getElem hi]; exact h _ (List.getElem_mem hi)
  · rw [List.getD_eq_getElem?_getD, List.getElem?_eq_none (by omega)]; exact BB_pos
theorem Ok.take {xs : List Nat} (h : Ok xs) (k : Nat) : Ok (xs.take k) := fun x hx => h x (List.mem_of_mem_take hx)
theorem Ok.drop {xs : List Nat} (h : Ok xs) (k : Nat) : Ok (xs.drop k) := fun x hx => h x (List.mem_of_mem_drop hx)
theorem Ok.append {xs ys : List Nat} (h : Ok xs) (k : Ok ys) : Ok (xs ++ ys) := by
  intro x hx; rcases List.mem_append.1 hx with h' | h'
  · exact h x h'
  · exact k x h'
theorem Ok.set {xs : List Nat} (h : Ok xs) (i x : Nat) (hx : x < BB) : Ok (xs.set i x) := by
  intro y hy; rcases List.mem_or_eq_of_mem_set hy with h' | h'
  · exact h y h'
  · rw [h']; exact hx

theorem val_append (xs ys : List Nat) : val (xs ++ ys) = val xs + BB ^ xs.length * val ys := by
  induction xs with
  | nil => simp [val]
  | cons x xs ih => simp only [List.cons_append, val, List.length_cons, ih, Nat.pow_succ, Nat.mul_add, Nat.add_assoc]; congr 2; rw [← Nat.mul_assoc, Nat.mul_comm BB]

theorem val_lt {xs : List Nat} (h : Ok xs) : val xs < BB ^ xs.length := by
  induction xs with
  | nil => simp [val]
  | cons x xs ih =>
    have h1 := ih h.tail
    have h2 := h.head
    simp only [val, List.length_cons, Nat.pow_succ]
    have : BB * (val xs + 1) ≤ BB * BB ^ xs.length := Nat.mul_le_mul_left _ h1
    rw [Nat.mul_add, Nat.mul_one] at this
    rw [Nat.mul_comm (BB ^ xs.length)]
    omega

theorem val_replicate (n : Nat) : val (List.replicate n 0) = 0 := by
  induction n with
  | zero => rfl
  | succ n ih => simp [List.replicate_succ, val, ih]

/-- a list whose last limb is not 0 is the list of its number -/
theorem lim_val {xs : List Nat} (h : Ok xs) (hl : ∀ x, xs.getLast? = some x → x ≠ 0) : lim (val xs) = xs := by
  induction xs with
  | nil => rfl
  | cons x xs ih =>
    have h1 := h.head
    have hpos : 0 < val (x :: xs) := by
      simp only [val]
      by_cases hx : xs = []
      · subst hx; have := hl x (by simp); omega
      · have ht : lim (val xs) = xs := ih h.tail (fun y hy => hl y (by rw [List.getLast?_cons_of_ne_nil hx]; exact hy))
        have : val xs ≠ 0 := by intro e; rw [e, lim_zero] at ht; exact hx ht.symm
        have : 0 < BB * val xs := Nat.mul_pos BB_pos (by omega)
        omega
    have hm : val (x :: xs) % BB = x := by simp only [val]; rw [Nat.add_mul_mod_self_left]; exact Nat.mod_eq_of_lt h1
    have hd : val (x :: xs) / BB = val xs := by simp only [val]; rw [Nat.add_mul_div_left _ _ BB_pos, Nat.div_eq_of_lt h1, Nat.zero_add]
    rw [lim_pos hpos, hm, hd]
    by_cases hx : xs = []
    · subst hx; rfl
    · rw [ih h.tail (fun y hy => hl y (by rw [List.getLast?_cons_of_ne_nil hx]; exact hy))]

theorem take_succ_val (xs : List Nat) (k : Nat) (h : k < xs.length) : val (xs.take (k + 1)) = val (xs.take k) + BB ^ k * lm xs k := by
  unfold lm
  rw [List.take_succ_eq_append_getElem h, val_append, List.length_take, Nat.min_eq_left (by omega)]
  simp [val, h]

/-- what trim ends with -/
theorem take_lim {xs : List Nat} {k : Nat} (h : Ok xs) (hk : k ≤ xs.length) (hv : val (xs.take k) = val xs) (hz : k = 0 ∨ lm xs (k - 1) ≠ 0) : xs.take k = lim (val xs) := by
  unfold lm at hz
  rw [← hv]
  refine (lim_val (h.take k) (fun x hx => ?_)).symm
  rcases hz with rfl | hz
  · simp at hx
  · by_cases h0 : k = 0
    · subst h0; simp at hx
    · rw [List.getLast?_eq_getElem?, List.length_take, Nat.min_eq_left hk, List.getElem?_take, if_pos (by omega)] at hx
      rw [List.getD_eq_getElem?_getD, hx] at hz
      simpa using hz

theorem lm_take (xs : List Nat) (k i : Nat) (h : i < k) : lm (xs.take k) i = lm xs i := by
  unfold lm; rw [List.getD_eq_getElem?_getD, List.getD_eq_getElem?_getD, List.getElem?_take, if_pos h]
theorem lm_get (xs : List Nat) (i : Nat) (h : i < xs.length) : lm xs i = xs[i] := by
  unfold lm; simp [h]
theorem lm_over (xs : List Nat) (i : Nat) (h : xs.length ≤ i) : lm xs i = 0 := by
  unfold lm; simp [h]

theorem lim_length_le {n k : Nat} (h : n < BB ^ k) : (lim n).length ≤ k := by
  induction k generalizing n with
  | zero => have : n = 0 := by simpa using h
            subst this; simp [lim_zero]
  | succ k ih =>
    by_cases h0 : n = 0
    · subst h0; simp [lim_zero]
    · rw [lim_pos (by omega), List.length_cons]
      have : n / BB < BB ^ k := by rw [Nat.div_lt_iff_lt_mul BB_pos]; rw [Nat.pow_succ] at h; exact h
      have := ih this; omega

theorem lim_len_lt {m n : Nat} (h : (lim m).length < (lim n).length) : m < n := by
  by_cases hm : m < n
  · exact hm
  · have h1 : n < BB ^ (lim m).length := Nat.lt_of_le_of_lt (Nat.le_of_not_lt hm) (by have := val_lt (ok_lim m); rw [val_lim] at this; exact this)
    have := lim_length_le h1; omega

end Go.Proofs.YtenmogmdijnlhaaDoor.D

namespace Go.Proofs.YtenmogmdijnlhaaDoor
open Go.RowKit

/-- a number as the document's answers have it: digits to the base 65536 -/
def RInt (w : World) (v : Value) (z : Int) : Prop :=
  ∃ (b : Bool) (n : Nat) (a : Option Addr) (cap : Nat), v = .agg #[.bool b, .slice a (D.lim n).length cap] ∧ Nums w (.slice a (D.lim n).length cap) (D.lim n) ∧ z = sg b n ∧ (n = 0 → b = false)
theorem RInt.below {w w' : World} {v : Value} {z : Int} (h : RInt w v z) (hb : Below w.heap.size w w') : RInt w' v z := by
  obtain ⟨b, n, a, cap, rfl, hn, rfl, h0⟩ := h
  exact ⟨b, n, a, cap, rfl, hn.below hb, rfl, h0⟩
theorem RInt.drew {w : World} {v : Value} {z : Int} (h : RInt w v z) : RInt w.drew v z := h
theorem RInt.keep {w w' : World} {v : Value} {z : Int} (h : RInt w v z) (k : Spares w w') : RInt w' v z := by
  obtain ⟨b, n, a, cap, rfl, hn, rfl, h0⟩ := h
  exact ⟨b, n, a, cap, rfl, k _ _ hn, rfl, h0⟩

theorem Tryd.infoRef : (Tryd.prog.info? 61).map (·.size) = some 2 := by kernel_rfl
theorem ret_ref {fn : Func} {R : Ending → World → Prop} {a : Act} {w : World} {p : Tmp} (h : fn.results = #[.cell p 61]) (g : Nat) (x y : Value) (t : TypeId) (fr : Nat × Nat)
    (hp : a.tmps.getD p undef = .pointer (some ⟨g, 0, none⟩)) (hg : w.heap[g]? = some (.cells #[x, y] t fr)) (hd : a.defers = []) (hR : R (.returned (.agg #[x, y])) w) : bodyPost Tryd.prog fn R .ret a w := by
  refine bodyPost_ret ?_ hd hR
  have hp' : a.tmps[p]?.getD undef = .pointer (some ⟨g, 0, none⟩) := by simpa using hp
  simp [results, h, hp', asAddr, run_loadVar_row w g t 61 #[x, y] fr _ hg Tryd.underlying61 rfl Tryd.infoRef]

theorem dok {xs : List Nat} (h : D.Ok xs) : Ok xs := fun x hx => Nat.lt_of_lt_of_le (h x hx) (by decide)
theorem dtrim_step {xs : List Nat} {k : Nat} (hk : k + 1 ≤ xs.length) (hv : D.val (xs.take (k + 1)) = D.val xs) (hz : lm xs k = 0) : D.val (xs.take k) = D.val xs := by
  rw [D.take_succ_val xs k (by omega), show D.lm xs k = lm xs k from rfl, hz] at hv; simpa using hv
theorem dtrim_end {w w' : World} {a : Option Addr} {cap k : Nat} {b : Bool} {xs : List Nat} (hN : Nums w (.slice a xs.length cap) xs) (hd : D.Ok xs) (hk : k ≤ xs.length) (hv : D.val (xs.take k) = D.val xs)
    (hz : k = 0 ∨ lm xs (k - 1) ≠ 0) (hb : Below w.heap.size w w') (s : Bool) (hs : s = (b && decide (0 < k))) : RInt w' (.agg #[.bool s, .slice a k cap]) (sg b (D.val xs)) := by
  have e := D.take_lim hd hk hv hz
  have hT := hN.take k hk
  rw [e] at hT
  have e0 : (D.lim (D.val xs)).length = k := by rw [← e, List.length_take]; omega
  subst hs
  refine ⟨_, D.val xs, a, cap, by rw [e0], by rw [e0]; exact hT.below hb, ?_, fun h => ?_⟩
  · by_cases h0 : k = 0
    · have : D.val xs = 0 := by rw [← hv, h0]; rfl
      rw [this, sg_zero, sg_zero]
    · rw [decide_eq_true (by omega), Bool.and_true]
  · rw [h] at e0
    have : k = 0 := by rw [← e0]; rfl
    subst this; simp

set_option maxRecDepth 100000 in
set_option maxHeartbeats 1000000 in
theorem rnorm2_any (s : Bool) (v : Value) (xs : List Nat) (w : World) (h : Nums w v xs) (hd : D.Ok xs) :
    Calls Tryd.prog 43 #[.bool s, v] w fun e w' => ∃ v', e = .returned v' ∧ RInt w' v' (sg s (D.val xs)) ∧ Below w.heap.size w w' := by
  have hN : Hid (Nums w v xs) := h
  have HD := hide hd
  rcases h.cases with ⟨rfl, a, cap, rfl, hcap⟩ | ⟨hpos, b, off, cap, rfl, hl, hm, hb, hc⟩
  · clear h hd
    unfold maxLen at hcap
    go_enter Tryd.func43, Tryd.ntmps43
    go_wp2
    refine wp_loop_rounds 1 ?_
    rw [rounds_succ]
    cases s <;> cases a
    all_goals
      go_wp2
      refine ret_ref rfl w.heap.size _ _ _ _ rfl (heap_alloc_new _ _) rfl ?_
      exact ⟨_, rfl, dtrim_end (k := 0) hN.out HD.out (Nat.zero_le _) rfl (.inl rfl) (below_alloc w _) _ (by simp), below_alloc _ _⟩
  · clear h hd
    have hc' : ∀ i, i < xs.length → (w.alloc (.cells #[.bool false, .slice none 0 0] 61)).cell? ⟨b, off + i, none⟩ = some (.int .u32 (lm xs i : Nat)) := fun i hi => by
      rw [(below_alloc w _).cell (World.block_lt_of_cell? w _ (hc i hi))]; exact hc i hi
    clear hc
    unfold maxLen at hm
    go_enter Tryd.func43, Tryd.ntmps43
    go_wp2
    go_loopw [5] (fun n wr => ∃ k : Nat, k ≤ xs.length ∧ n = .int .i64 k ∧ D.val (xs.take k) = D.val xs ∧ wr = w.alloc (.cells #[.bool false, .slice none 0 0] 61)) (fun n _ => (intOf n).toNat)
    case atStart => exact ⟨xs.length, Nat.le_refl _, rfl, by rw [List.take_length], rfl⟩
    case round =>
      obtain ⟨k, hk, rfl, hv, rfl⟩ := hrel
      have HV : Hid (D.val (xs.take k) = D.val xs) := hv
      clear hv
      cases k with
      | zero =>
        cases s with
        | true =>
          go_wp2
          refine ret_ref rfl w.heap.size _ _ _ _ rfl (heap_alloc_new _ _) rfl ?_
          exact ⟨_, rfl, dtrim_end hN.out HD.out (Nat.zero_le _) HV.out (.inl rfl) (below_alloc _ _) _ (by simp), below_alloc _ _⟩
        | false =>
          go_wp2
          refine ret_ref rfl w.heap.size _ _ _ _ rfl (heap_alloc_new _ _) rfl ?_
          exact ⟨_, rfl, dtrim_end hN.out HD.out (Nat.zero_le _) HV.out (.inl rfl) (below_alloc _ _) _ (by simp), below_alloc _ _⟩
      | succ k =>
        have hck := hc' k (by omega)
        by_cases hz : lm xs k = 0
        · have hz' : (((lm xs k : Nat) : Int) == 0) = true := by simpa using hz
          have HZ : Hid (lm xs k = 0) := hz
          clear hz
          go_wp2
          go_roundw
          case rel => exact ⟨k, by omega, by go_num, dtrim_step hk HV.out HZ.out, trivial⟩
          case measure => simp [intOf]
        · have hz' : (((lm xs k : Nat) : Int) == 0) = false := by simpa using hz
          cases s with
          | true =>
            go_wp2
            refine ret_ref rfl w.heap.size _ _ _ _ rfl (heap_alloc_new _ _) rfl ?_
            exact ⟨_, rfl, dtrim_end hN.out HD.out hk HV.out (.inr hz) (below_alloc _ _) _ (by simp), below_alloc _ _⟩
          | false =>
            go_wp2
            refine ret_ref rfl w.heap.size _ _ _ _ rfl (heap_alloc_new _ _) rfl ?_
            exact ⟨_, rfl, dtrim_end hN.out HD.out hk HV.out (.inr hz) (below_alloc _ _) _ (by simp), below_alloc _ _⟩
end Go.Proofs.YtenmogmdijnlhaaDoor

namespace Go.Proofs.YtenmogmdijnlhaaDoor
open Go.RowKit

/-- each limb as two digits -/
def two : List Nat → List Nat
  | [] => []
  | x :: xs => x % 65536 :: x / 65536 :: two xs
/-- both cells of a block written anew: all limbs lie as they lay -/
theorem keeps2 {W : World} {B : Nat} {t : TypeId} {x y : Value} (h : Box2 W B t x y) (hx : ∀ z, x ≠ .int .u32 z) (hy : ∀ z, y ≠ .int .u32 z) (x' y' : Value) : Spares W ((W.setCell ⟨B, 0, none⟩ x').setCell ⟨B, 1, none⟩ y') :=
  (Spares.set h.cell0 hx x').trans (Spares.set (h.set0 x').cell1 hy y')
end Go.Proofs.YtenmogmdijnlhaaDoor

namespace Go.Proofs.YtenmogmdijnlhaaDoor
open Go.RowKit

/-- one more limb behind what is owned -/
theorem own_step {w5 w6 w1 : World} {base T : Nat} {v5 v6 : Value} {acc : List Nat} {x : Int} {n : Nat} (hx : x = (n : Int)) {o : Obj} (hO : Own w5 base v5 acc)
    (hown6 : w6.ownsRow base 87 1 v6 (acc.length + 1) (ints acc ++ [Value.int .u32 x])) (hgrow6 : (w5.alloc o).grownBy w6 v5.ownBlock) (hB5 : Below T w1 w5) (hT : T ≤ w5.heap.size) (hb : T ≤ base) :
    Own w6 base v6 (acc ++ [n]) ∧ Below T w1 w6 := by
  constructor
  · subst hx
    have e1 : ints acc ++ [Value.int .u32 (n : Int)] = ints (acc ++ [n]) := by simp [ints]
    rw [e1] at hown6
    show World.ownsRow _ _ _ _ _ _ _; simpa using hown6
  · exact (hB5.alloc hT o).grown hgrow6 (by simp; omega) (fun k hk => Nat.le_trans hb (hO.lt k hk).1)

/-- two digits a limb -/
def jnd (ds : List Nat) (k : Nat) : List Nat := (List.range k).map fun j => lm ds (2 * j) + 65536 * lm ds (2 * j + 1)
theorem dlm_lt {ds : List Nat} (h : D.Ok ds) (i : Nat) : lm ds i < 65536 := h.at i
theorem dtake_succ (ds : List Nat) (k : Nat) : D.val (ds.take (k + 1)) = D.val (ds.take k) + 65536 ^ k * lm ds k := by
  by_cases h : k < ds.length
  · exact D.take_succ_val ds k h
  · rw [List.take_of_length_le (by omega), List.take_of_length_le (by omega), lm_over _ _ (by omega)]; simp
theorem dlim_last {n : Nat} (h : 0 < (D.lim n).length) : lm (D.lim n) ((D.lim n).length - 1) ≠ 0 := by
  revert h
  refine D.lim_ind (p := fun n => 0 < (D.lim n).length → lm (D.lim n) ((D.lim n).length - 1) ≠ 0) (fun h => by simp [D.lim_zero] at h) (fun n hn ih _ => ?_) n
  rw [D.lim_pos hn]
  by_cases h0 : D.lim (n / D.BB) = []
  · rw [h0]
    have hz : n / D.BB = 0 := by rw [← D.val_lim (n / D.BB), h0]; rfl
    have : n % D.BB = n := Nat.mod_eq_of_lt ((Nat.div_eq_zero_iff_lt D.BB_pos).1 hz)
    simp [lm, this]; omega
  · have hp : 0 < (D.lim (n / D.BB)).length := List.length_pos_iff.2 h0
    have := ih hp
    obtain ⟨m, hm⟩ : ∃ m, (D.lim (n / D.BB)).length = m + 1 := ⟨_, (Nat.succ_pred_eq_of_pos hp).symm⟩
    rw [List.length_cons, hm] 
    rw [hm] at this
    simpa [lm] using this
end Go.Proofs.YtenmogmdijnlhaaDoor

namespace Go.Proofs.YtenmogmdijnlhaaDoor
open Go.RowKit

end Go.Proofs.YtenmogmdijnlhaaDoor

namespace Go.Proofs.YtenmogmdijnlhaaDoor
open Go.RowKit

end Go.Proofs.YtenmogmdijnlhaaDoor

namespace Go.Proofs.YtenmogmdijnlhaaDoor
open Go.RowKit

set_option maxRecDepth 100000 in
theorem rsign_any (v : Value) (z : Int) (w : World) (h : RInt w v z) :
    Calls Tryd.prog 55 #[v] w fun e w' => e = .returned (.int .i64 (sgnI z)) ∧ Below w.heap.size w w' := by
  obtain ⟨b, n, a, c, rfl, hn, rfl, h0⟩ := h
  by_cases hp : n = 0
  · subst hp
    have : b = false := h0 rfl
    subst this
    have e : sgnI (sg false 0) = 0 := rfl
    rw [e]
    have e2 : (D.lim 0).length = 0 := rfl
    rw [e2]
    clear hn h0
    go_enter Tryd.func55, Tryd.ntmps55
    go_wp2
    go_ret
    exact ⟨rfl, below_alloc _ _⟩
  · have hp' : 0 < (D.lim n).length := by rw [D.lim_pos (by omega)]; simp
    clear hn h0
    cases b with
    | true =>
      rw [show sgnI (sg true n) = -1 from if_pos (by rw [sg_true]; omega)]
      go_enter Tryd.func55, Tryd.ntmps55
      go_wp2
      go_ret
      exact ⟨rfl, below_alloc _ _⟩
    | false =>
      rw [show sgnI (sg false n) = 1 from by unfold sgnI; rw [if_neg (by rw [sg_false]; omega), if_neg (by rw [sg_false]; omega)]]
      go_enter Tryd.func55, Tryd.ntmps55
      go_wp2
      go_ret
      exact ⟨rfl, below_alloc _ _⟩

set_option maxRecDepth 100000 in
set_option maxHeartbeats 400000 in
theorem rneg_any (v : Value) (z : Int) (w : World) (h : RInt w v z) :
    Calls Tryd.prog 121 #[v] w fun e w' => ∃ v', e = .returned v' ∧ RInt w' v' (-z) ∧ Below w.heap.size w w' := by
  obtain ⟨b, n, a, c, rfl, hn, rfl, h0⟩ := h
  have HE := hide (nboxes2 61 w (.bool b) (.slice a (D.lim n).length c) (.bool false) (.slice none 0 0))
  have HN := hide (hn.below HE.out.2.2)
  clear hn h0
  go_enter Tryd.func121, Tryd.ntmps121
  go_wp2_with fail
  refine (rnorm2_any (!b) _ (D.lim n) _ HN.out (D.ok_lim n)).mono ?_
  rintro e w2 ⟨v, rfl, ⟨b', n', a', c', rfl, hn', he, h0⟩, hb2⟩
  rw [D.val_lim] at he
  have HX := hide (HE.out.2.1.step hb2)
  have HB := hide (HE.out.2.2.trans (hb2.mono HE.out.2.2.size))
  have hc0 := HX.out.cell0
  have hc1 := HX.out.cell1
  have hf0 := HX.out.free 0
  have hf1 := HX.out.free 1
  clear hb2
  go_wp2
  refine ret_ref rfl (w.heap.size + 1) _ _ _ _ rfl ((HX.out.set0 _).set1 _) rfl ?_
  exact ⟨_, rfl, ⟨b', n', a', c', rfl, keeps2 HX.out (by simp) (by simp) _ _ _ _ hn', by rw [← he, sg_neg], h0⟩, (HB.out.setCell (p := ⟨w.heap.size + 1, 0, none⟩) (by simp) _).setCell (p := ⟨w.heap.size + 1, 1, none⟩) (by simp) _⟩
set_option maxRecDepth 100000 in
set_option maxHeartbeats 400000 in
theorem rabs_any (v : Value) (z : Int) (w : World) (h : RInt w v z) :
    Calls Tryd.prog 85 #[v] w fun e w' => ∃ v', e = .returned v' ∧ RInt w' v' (z.natAbs : Int) ∧ Below w.heap.size w w' := by
  obtain ⟨b, n, a, c, rfl, hn, rfl, h0⟩ := h
  have HE := hide (nboxes2 61 w (.bool b) (.slice a (D.lim n).length c) (.bool false) (.slice none 0 0))
  have HN := hide (hn.below HE.out.2.2)
  clear hn h0
  go_enter Tryd.func85, Tryd.ntmps85
  go_wp2_with fail
  refine (rnorm2_any false _ (D.lim n) _ HN.out (D.ok_lim n)).mono ?_
  rintro e w2 ⟨v, rfl, ⟨b', n', a', c', rfl, hn', he, h0⟩, hb2⟩
  rw [D.val_lim] at he
  have HX := hide (HE.out.2.1.step hb2)
  have HB := hide (HE.out.2.2.trans (hb2.mono HE.out.2.2.size))
  have hc0 := HX.out.cell0
  have hc1 := HX.out.cell1
  have hf0 := HX.out.free 0
  have hf1 := HX.out.free 1
  clear hb2
  go_wp2
  refine ret_ref rfl (w.heap.size + 1) _ _ _ _ rfl ((HX.out.set0 _).set1 _) rfl ?_
  exact ⟨_, rfl, ⟨b', n', a', c', rfl, keeps2 HX.out (by simp) (by simp) _ _ _ _ hn', by rw [← he, sg_abs]; rfl, h0⟩, (HB.out.setCell (p := ⟨w.heap.size + 1, 0, none⟩) (by simp) _).setCell (p := ⟨w.heap.size + 1, 1, none⟩) (by simp) _⟩

theorem dval_lt_of_top : ∀ {xs ys : List Nat} {k : Nat}, xs.length = ys.length → D.Ok xs → D.Ok ys → k < xs.length → lm xs k < lm ys k → (∀ j, k + 1 ≤ j → lm xs j = lm ys j) → D.val xs < D.val ys := by
  intro xs
  induction xs with
  | nil => intro ys k _ _ _ h; simp at h
  | cons x xs ih =>
    intro ys k hl ho1 ho2 hk hlt htop
    cases ys with
    | nil => simp at hl
    | cons y ys =>
      have hx := ho1.head
      have hy := ho2.head
      simp only [D.val]
      cases k with
      | zero =>
        have he : xs = ys := lists_eq (by simpa using hl) (fun i _ => by simpa [lm] using htop (i + 1) (by omega))
        subst he
        have : x < y := by simpa [lm] using hlt
        omega
      | succ k =>
        have h1 : D.val xs < D.val ys := ih (k := k) (by simpa using hl) ho1.tail ho2.tail (by simpa using hk) (by simpa [lm] using hlt) (fun j hj => by simpa [lm] using htop (j + 1) (by omega))
        have h2 : D.BB * (D.val xs + 1) ≤ D.BB * D.val ys := Nat.mul_le_mul_left _ h1
        rw [Nat.mul_add, Nat.mul_one] at h2
        omega

set_option maxRecDepth 100000 in
set_option maxHeartbeats 1000000 in
theorem rsize_any (v1 v2 : Value) (m n : Nat) (w : World) (h1 : Nums w v1 (D.lim m)) (h2 : Nums w v2 (D.lim n)) :
    Calls Tryd.prog 79 #[v1, v2] w fun e w' => e = .returned (.int .i64 (cmpI m n)) ∧ Below w.heap.size w w' := by
  have HM := hide (D.val_lim m)
  have HN := hide (D.val_lim n)
  have HO1 := hide (D.ok_lim m)
  have HO2 := hide (D.ok_lim n)
  obtain ⟨ho1, a1, c1, rfl, hl1, hm1, hc1⟩ := h1
  obtain ⟨ho2, a2, c2, rfl, hl2, hm2, hc2⟩ := h2
  have HC1 := hide hc1
  have HC2 := hide hc2
  have HLL : Hid ((D.lim m).length < (D.lim n).length → m < n) := fun h => D.lim_len_lt h
  have HGG : Hid ((D.lim n).length < (D.lim m).length → n < m) := fun h => D.lim_len_lt h
  clear hc1 hc2 ho1 ho2
  unfold maxLen at hm1 hm2
  generalize D.lim m = L1 at *
  generalize D.lim n = L2 at *
  by_cases hA : L1.length < L2.length
  · rw [show cmpI m n = -1 from cmpI_lt (HLL.out hA)]
    have hne : (((L1.length : Nat) : Int) != ((L2.length : Nat) : Int)) = true := by simp; omega
    go_enter Tryd.func79, Tryd.ntmps79
    go_wp2
    go_ret
    exact ⟨rfl, Below.refl _ _⟩
  · by_cases hB : L2.length < L1.length
    · rw [show cmpI m n = 1 from cmpI_gt (HGG.out hB)]
      have hne : (((L1.length : Nat) : Int) != ((L2.length : Nat) : Int)) = true := by simp; omega
      go_enter Tryd.func79, Tryd.ntmps79
      go_wp2
      go_ret
      exact ⟨rfl, Below.refl _ _⟩
    · have HE : Hid (L1.length = L2.length) := by show L1.length = L2.length; omega
      have hne : (((L1.length : Nat) : Int) != ((L2.length : Nat) : Int)) = false := by simp; omega
      go_enter Tryd.func79, Tryd.ntmps79
      go_wp2
      go_loopw [5] (fun i wr => ∃ k : Nat, k ≤ L1.length ∧ i = .int .i64 ((k : Int) - 1) ∧ (∀ j, k ≤ j → lm L1 j = lm L2 j) ∧ Below w.heap.size w wr) (fun i _ => (intOf i + 1).toNat)
      case atStart => exact ⟨L1.length, Nat.le_refl _, by go_num, fun j hj => by rw [lm_over _ _ hj, lm_over _ _ (by have := HE.out; omega)], Below.refl _ _⟩
      case round =>
        obtain ⟨k, hk, rfl, hag, hbel⟩ := hrel
        have HA : Hid (∀ j, k ≤ j → lm L1 j = lm L2 j) := hag
        clear hag
        cases k with
        | zero =>
          go_wp2
          go_ret
          have hxy : L1 = L2 := lists_eq HE.out (fun i _ => HA.out i (Nat.zero_le _))
          have : m = n := by rw [← HM.out, ← HN.out, hxy]
          exact ⟨by subst this; rw [cmpI_eq]; rfl, hbel⟩
        | succ k =>
          have hk2 : k < L1.length := by omega
          have hk3 : k < L2.length := by omega
          obtain ⟨b1, o1, rfl, hx⟩ := HC1.out (ne_nil hk2)
          obtain ⟨b2, o2, rfl, hy⟩ := HC2.out (ne_nil hk3)
          have hx' : wr.cell? ⟨b1, o1 + k, none⟩ = some (.int .u32 (lm L1 k : Nat)) := by rw [hbel.cell (World.block_lt_of_cell? w _ (hx k hk2))]; exact hx k hk2
          have hy' : wr.cell? ⟨b2, o2 + k, none⟩ = some (.int .u32 (lm L2 k : Nat)) := by rw [hbel.cell (World.block_lt_of_cell? w _ (hy k hk3))]; exact hy k hk3
          clear hx hy HC1 HC2
          by_cases hlt : lm L1 k < lm L2 k
          · have hlt' : ((lm L1 k : Nat) : Int) < ((lm L2 k : Nat) : Int) := by omega
            go_wp2
            go_quiet (fail)
            go_wp2
            go_ret
            have : m < n := by rw [← HM.out, ← HN.out]; exact dval_lt_of_top HE.out HO1.out HO2.out hk2 hlt HA.out
            exact ⟨by rw [cmpI_lt this]; rfl, below_drewN hbel _⟩
          · by_cases hgt : lm L2 k < lm L1 k
            · have hlt' : ¬ ((lm L1 k : Nat) : Int) < ((lm L2 k : Nat) : Int) := by omega
              have hgt' : ((lm L2 k : Nat) : Int) < ((lm L1 k : Nat) : Int) := by omega
              go_wp2
              go_quiet (fail)
              go_wp2
              go_quiet (fail)
              go_wp2
              go_ret
              have h3 : n < m := by rw [← HM.out, ← HN.out]; exact dval_lt_of_top HE.out.symm HO2.out HO1.out hk3 hgt (fun j hj => (HA.out j hj).symm)
              exact ⟨by rw [cmpI_gt h3]; rfl, by first | exact below_drewN hbel _ | exact below_drewN (below_drewN hbel _) _⟩
            · have HEK : Hid (lm L1 k = lm L2 k) := by show lm L1 k = lm L2 k; omega
              have hlt' : ¬ ((lm L1 k : Nat) : Int) < ((lm L2 k : Nat) : Int) := by omega
              have hgt' : ¬ ((lm L2 k : Nat) : Int) < ((lm L1 k : Nat) : Int) := by omega
              go_wp2
              go_quiet (fail)
              go_wp2
              go_quiet (fail)
              go_wp2
              go_roundw
              case rel => exact ⟨k, by omega, by go_num, fun j hj => by rcases Nat.lt_or_eq_of_le hj with h | rfl; exact HA.out j h; exact HEK.out, by first | exact below_drewN hbel _ | exact below_drewN (below_drewN hbel _) _⟩
              case measure => simp [intOf]

theorem sgn_neg {z : Int} (h : sgnI z < 0) : z < 0 := by
  unfold sgnI at h
  split at h
  · assumption
  · split at h <;> omega
theorem sgn_nonneg {z : Int} (h : ¬ sgnI z < 0) : ¬ z < 0 := fun k => h (by unfold sgnI; rw [if_pos k]; decide)
theorem cmp_signs_lt {x y : Int} (h : sgnI x < sgnI y) : cmpZ x y = -1 := by
  refine cmpZ_lt ?_
  unfold sgnI at h
  split at h <;> split at h <;> (try split at h) <;> (try split at h) <;> omega
theorem cmp_signs_gt {x y : Int} (h : sgnI y < sgnI x) : cmpZ x y = 1 := by
  refine cmpZ_gt ?_
  unfold sgnI at h
  split at h <;> split at h <;> (try split at h) <;> (try split at h) <;> omega
theorem sg_pos {b : Bool} {n : Nat} (h : ¬ sg b n < 0) (h0 : n = 0 → b = false) : b = false := by
  cases b with
  | false => rfl
  | true => rcases Nat.eq_zero_or_pos n with e | e
            · exact h0 e
            · exact absurd (by rw [sg_true]; omega) h
theorem sg_minus {b : Bool} {n : Nat} (h : sg b n < 0) : b = true := by
  cases b with
  | true => rfl
  | false => rw [sg_false] at h; omega

set_option maxRecDepth 100000 in
set_option maxHeartbeats 1000000 in
theorem rcmp_any (v1 v2 : Value) (x y : Int) (w : World) (h1 : RInt w v1 x) (h2 : RInt w v2 y) :
    Calls Tryd.prog 81 #[v1, v2] w fun e w' => e = .returned (.int .i64 (cmpZ x y)) ∧ Below w.heap.size w w' := by
  have I1 := hide h1
  have I2 := hide h2
  obtain ⟨b1, n1, a1, c1, rfl, hn1, e1, h01⟩ := h1
  obtain ⟨b2, n2, a2, c2, rfl, hn2, e2, h02⟩ := h2
  have HE := hide (nboxes2 61 w (.bool b1) (.slice a1 (D.lim n1).length c1) (.bool b2) (.slice a2 (D.lim n2).length c2))
  replace I1 := hide (I1.out.below HE.out.2.2)
  replace I2 := hide (I2.out.below HE.out.2.2)
  have HN1 := hide (hn1.below HE.out.2.2)
  have HN2 := hide (hn2.below HE.out.2.2)
  have HZ := hide (And.intro (And.intro e1 h01) (And.intro e2 h02))
  clear hn1 hn2 h01 h02 e1 e2
  go_enter Tryd.func81, Tryd.ntmps81
  go_wp2_with fail
  refine wp_calm (fun w' => Below w.heap.size w w' ∧ Box2 w' w.heap.size 61 (.bool b1) (.slice a1 (D.lim n1).length c1) ∧ Box2 w' (w.heap.size + 1) 61 (.bool b2) (.slice a2 (D.lim n2).length c2)) (fun _ => true) 6 #[false, false, false, false, false, false] (by kernel_rfl) rfl rfl ?_
  have HF := hide (And.intro HE.out.2.2.drew (And.intro HE.out.1.drew HE.out.2.1.drew))
  refine Calm.take (i := 0) (v := ?_) (a' := ?_) (l' := #[true, false, false, false, false, false]) (d := some 7) rfl (by kernel_rfl) (by kernel_rfl) (by kernel_rfl) (by kernel_rfl) (fun _ _ _ h => h) HF.out rfl ?_ rfl rfl ?_ ?_
  rotate_left
  · intro w' hF; have f10 := hF.2.1.cell0; have f11 := hF.2.1.cell1; have f20 := hF.2.2.cell0; have f21 := hF.2.2.cell1; clear hF; go_simp; try rfl
  rotate_left
  · simp only [Act.put]; exact rfl
  refine Calm.take (i := 2) (v := ?_) (a' := ?_) (l' := #[true, false, true, false, false, false]) (d := some 9) rfl (by kernel_rfl) (by kernel_rfl) (by kernel_rfl) (by kernel_rfl) (fun _ _ _ h => h) HF.out rfl ?_ rfl rfl ?_ ?_
  rotate_left
  · intro w' hF; have f10 := hF.2.1.cell0; have f11 := hF.2.1.cell1; have f20 := hF.2.2.cell0; have f21 := hF.2.2.cell1; clear hF; go_simp; try rfl
  rotate_left
  · simp only [Act.put]; exact rfl
  refine Calm.one (i := 1) (l' := #[true, true, true, false, false, false]) (by kernel_rfl) rfl rfl rfl fun K hK => ?_
  go_simp
  refine (rsign_any _ x _ I1.out.drew).mono ?_
  rintro e u0 ⟨rfl, hb⟩
  replace I2 := hide (I2.out.drew.below hb)
  replace HN1 := hide (HN1.out.drew.below hb)
  replace HN2 := hide (HN2.out.drew.below hb)
  try replace BX := hide (BX.out.step hb)
  have HF' := hide (And.intro (HF.out.1.trans ((hb).mono HF.out.1.size)) (And.intro (HF.out.2.1.step (hb)) (HF.out.2.2.step (hb))))
  refine hK _ _ (fun _ => HF'.out) ?_
  clear hK K HF hb
  have HF := hide HF'.out
  clear HF'
  refine Calm.one (i := 3) (l' := #[true, true, true, true, false, false]) (by kernel_rfl) rfl rfl rfl fun K hK => ?_
  go_simp
  refine (rsign_any _ y _ I2.out).mono ?_
  rintro e u1 ⟨rfl, hb⟩
  replace I2 := hide (I2.out.below hb)
  replace HN1 := hide (HN1.out.below hb)
  replace HN2 := hide (HN2.out.below hb)
  try replace BX := hide (BX.out.step hb)
  have HF' := hide (And.intro (HF.out.1.trans ((hb).mono HF.out.1.size)) (And.intro (HF.out.2.1.step (hb)) (HF.out.2.2.step (hb))))
  refine hK _ _ (fun _ => HF'.out) ?_
  clear hK K HF hb
  have HF := hide HF'.out
  clear HF'
  refine Calm.take (i := 4) (v := ?_) (a' := ?_) (l' := #[true, true, true, true, true, false]) (d := some 5) rfl (by kernel_rfl) (by kernel_rfl) (by kernel_rfl) (by kernel_rfl) (fun _ _ _ h => h) HF.out rfl ?_ rfl rfl ?_ ?_
  rotate_left
  · intro w' hF; clear hF; go_simp; try rfl
  rotate_left
  · simp only [Act.put]; exact rfl
  refine Calm.take (i := 5) (v := ?_) (a' := ?_) (l' := #[true, true, true, true, true, true]) (d := some 6) rfl (by kernel_rfl) (by kernel_rfl) (by kernel_rfl) (by kernel_rfl) (fun _ _ _ h => h) HF.out rfl ?_ rfl rfl ?_ ?_
  rotate_left
  · intro w' hF; clear hF; go_simp; try rfl
  rotate_left
  · simp only [Act.put]; exact rfl
  refine Calm.done (by kernel_rfl) ?_
  have hx0 := HF.out.2.1.cell0
  have hx1 := HF.out.2.1.cell1
  have hy0 := HF.out.2.2.cell0
  have hy1 := HF.out.2.2.cell1
  have HLT := hide (@cmp_signs_lt x y)
  have HGT := hide (@cmp_signs_gt x y)
  have HNG := hide (@sgn_neg x)
  have HNN := hide (@sgn_nonneg x)
  have HNY := hide (@sgn_neg y)
  have HNZ := hide (@sgn_nonneg y)
  generalize sgnI x = p at *
  generalize sgnI y = q at *
  by_cases hA : p < q
  · have hne : (p != q) = true := by simp; omega
    go_wp2
    go_ret
    exact ⟨by rw [HLT.out hA]; rfl, HF.out.1⟩
  · by_cases hB : q < p
    · have hne : (p != q) = true := by simp; omega
      go_wp2
      go_ret
      exact ⟨by rw [HGT.out hB]; rfl, HF.out.1⟩
    · have hpq : p = q := by omega
      subst hpq
      by_cases hC : p < 0
      · have hX := HNG.out hC
        have hY := HNY.out hC
        obtain ⟨⟨e1, _⟩, e2, _⟩ := HZ.out
        have hb1 : b1 = true := sg_minus (n := n1) (by rw [← e1]; exact hX)
        have hb2 : b2 = true := sg_minus (n := n2) (by rw [← e2]; exact hY)
        have HCZ : Hid (cmpZ x y = cmpI n2 n1) := hide (by rw [e1, e2, hb1, hb2, cmpZ_tt])
        clear hX hY e1 e2 hb1 hb2
        go_wp2_with fail
        refine (rsize_any _ _ n2 n1 _ HN2.out HN1.out).mono ?_
        rintro e w3 ⟨rfl, hb3⟩
        have HB3 := hide (HF.out.1.trans (hb3.mono HF.out.1.size))
        clear hb3
        go_wp2
        go_ret
        exact ⟨by rw [HCZ.out]; rfl, HB3.out⟩
      · have hX := HNN.out hC
        have hY := HNZ.out hC
        obtain ⟨⟨e1, k1⟩, e2, k2⟩ := HZ.out
        have hb1 : b1 = false := sg_pos (n := n1) (by rw [← e1]; exact hX) k1
        have hb2 : b2 = false := sg_pos (n := n2) (by rw [← e2]; exact hY) k2
        have HCZ : Hid (cmpZ x y = cmpI n1 n2) := hide (by rw [e1, e2, hb1, hb2, cmpZ_nn])
        clear hX hY e1 e2 hb1 hb2 k1 k2
        go_wp2_with fail
        refine (rsize_any _ _ n1 n2 _ HN1.out HN2.out).mono ?_
        rintro e w3 ⟨rfl, hb3⟩
        have HB3 := hide (HF.out.1.trans (hb3.mono HF.out.1.size))
        clear hb3
        go_wp2
        go_ret
        exact ⟨by rw [HCZ.out]; rfl, HB3.out⟩
end Go.Proofs.YtenmogmdijnlhaaDoor

namespace Go.Proofs.YtenmogmdijnlhaaDoor
open Go.RowKit

end Go.Proofs.YtenmogmdijnlhaaDoor

namespace Go.Proofs.YtenmogmdijnlhaaDoor
open Go.RowKit

/-- a number's digits so far, and what is left of it -/
structure OfAt (A u : Nat) (acc : List Nat) : Prop where
  ok : D.Ok acc
  len : acc.length ≤ 4
  lt : u < 65536 ^ (4 - acc.length)
  sum : D.val acc + 65536 ^ acc.length * u = A
theorem OfAt.start (A : Nat) (h : A < 18446744073709551616) : OfAt A A [] := ⟨D.Ok.nil, by simp, by simpa using h, by simp [D.val]⟩
theorem OfAt.less {A u : Nat} {acc : List Nat} (h : OfAt A u acc) (hu : 0 < u) : acc.length < 4 := by
  rcases Nat.lt_or_ge acc.length 4 with k | k
  · exact k
  · have := h.lt; rw [show 4 - acc.length = 0 from by omega] at this; simp at this; omega
theorem OfAt.step {A u : Nat} {acc : List Nat} (h : OfAt A u acc) (hu : 0 < u) : OfAt A (u / 65536) (acc ++ [u % 65536]) := by
  have hl := h.less hu
  refine ⟨h.ok.append (D.Ok.cons (Nat.mod_lt _ (by decide)) D.Ok.nil), by simp; omega, ?_, ?_⟩
  · have := h.lt
    rw [List.length_append, List.length_singleton, Nat.div_lt_iff_lt_mul (by decide), ← Nat.pow_succ, show (4 - (acc.length + 1)).succ = 4 - acc.length from by omega]
    exact this
  · rw [D.val_append, ← h.sum, List.length_append, List.length_singleton, Nat.pow_succ]
    simp only [D.val, Nat.mul_zero, Nat.add_zero]
    show D.val acc + 65536 ^ acc.length * (u % 65536) + 65536 ^ acc.length * 65536 * (u / 65536) = _
    rw [Nat.mul_assoc, Nat.add_assoc, ← Nat.mul_add, Nat.mod_add_div]

set_option maxRecDepth 100000 in
set_option maxHeartbeats 2000000 in
theorem rof_any (z : Int) (w : World) (hlo : -9223372036854775808 ≤ z) (hhi : z ≤ 9223372036854775807) :
    Calls Tryd.prog 60 #[.int .i64 z] w fun e w' => ∃ v, e = .returned v ∧ RInt w' v z ∧ Below w.heap.size w w' := by
  obtain ⟨i0, hi, hz0, hz1, hz2⟩ := info_parts Tryd.info87
  have HL := hide hlo
  have HH := hide hhi
  obtain ⟨A, hA⟩ : ∃ A, A = z.natAbs := ⟨_, rfl⟩
  have HA := hide hA
  have HAB : Hid (A < 18446744073709551616) := hide (by omega)
  clear hA
  by_cases neg : z < 0
  · have HNG := hide neg
    have huA : IntKind.u64.wrap (-IntKind.u64.wrap z) = (A : Int) := by rw [HA.out, IntKind.wrap_u64, IntKind.wrap_u64]; omega
    go_enter Tryd.func60, Tryd.ntmps60
    go_wp2
    clear huA
    go_loopw [3, 4] (fun uv dv wr => ∃ (u : Nat) (acc : List Nat), uv = .int .u64 u ∧ u < 18446744073709551616 ∧ OfAt A u acc ∧ Own wr (w.heap.size + 1) dv acc ∧ Below (w.heap.size + 1) (w.alloc (.cells #[.bool false, .slice none 0 0] 61)) wr) (fun uv _ _ => (intOf uv).toNat)
    case atStart => exact ⟨A, [], rfl, HAB.out, OfAt.start A HAB.out, World.ownsRow_nil _ _ _ _, Below.refl _ _⟩
    case round =>
      obtain ⟨u, acc, rfl, hub, hat, hO, hbel⟩ := hrel
      have HAT := hide hat
      have HO := hide hO
      have HBE := hide hbel
      clear hat hO hbel
      by_cases hu : 0 < u
      · have hln := HAT.out.less hu
        have hbs := HBE.out.size
        rw [World.size_alloc] at hbs
        have huI : (u : Int) < 18446744073709551616 := by omega
        have HUB := hide hub
        clear hub
        go_wp2_with (at_builtin; refine wpList_append_own _ rfl _ _ 54 rfl (w.heap.size + 1) 87 i0 (.int .u32 0) 1 4 Tryd.underlying54 hi hz0 hz1 hz2 rfl (by decide) _ _ _ rfl (World.ownsRow.alloc HO.out _) ⟨_, 0, none⟩ 1 1 [.int .u32 (((u : Int) % 65536))] rfl rfl ?_ ?_ ?_ ?_ ?_ ?_)
        · intro i u hi'
          match i, hi' with
          | 0, hi' => simp at hi'; subst hi'; simp [Addr.add]
        · intro u hu; simp at hu; subst hu; rfl
        · unfold maxLen; omega
        · omega
        · simp; omega
        · intro v6 w6 hown6 hgrow6 _
          obtain ⟨hO6, hB6⟩ := own_step (n := u % 65536) (by omega) HO.out hown6 hgrow6 HBE.out hbs (Nat.le_refl _)
          have HO6 := hide hO6
          have HB6 := hide hB6
          clear hown6 hgrow6 hO6 hB6
          go_wp2
          go_roundw
          case rel => exact ⟨u / 65536, _, congrArg (Value.int .u64) (by omega), by have := HUB.out; omega, HAT.out.step hu, HO6.out, HB6.out⟩
          case measure => simp [intOf]; omega
      · have e : u = 0 := by omega
        subst e
        have HR := hide ((Box2.new w _ _ _).below HBE.out (Nat.lt_succ_self _))
        have HNd := hide (HO.out.nums (dok HAT.out.ok))
        have HB1 := hide ((below_alloc w _).trans (HBE.out.mono (Nat.le_succ _)))
        have HV : Hid (D.val acc = A) := hide (by have := HAT.out.sum; simpa using this)
        go_wp2_with fail
        refine (rnorm2_any true _ acc _ HNd.out HAT.out.ok).mono ?_
        rintro e w2 ⟨v2, rfl, hr2, hb2⟩
        rw [HV.out] at hr2
        obtain ⟨b', n', a', c', rfl, hn', he, h0⟩ := hr2
        replace HR := hide (HR.out.step hb2)
        replace HB1 := hide (HB1.out.trans (hb2.mono HB1.out.size))
        have hc0 := HR.out.cell0
        have hc1 := HR.out.cell1
        have hf0 := HR.out.free 0
        have hf1 := HR.out.free 1
        clear hb2
        go_wp2
        refine ret_ref rfl w.heap.size _ _ _ _ rfl ((HR.out.set0 _).set1 _) rfl ?_
        exact ⟨_, rfl, ⟨b', n', a', c', rfl, keeps2 HR.out (by simp) (by simp) _ _ _ _ hn', by rw [← he]; have := HA.out; have := HNG.out; rw [sg_true]; omega, h0⟩, (HB1.out.setCell (p := ⟨w.heap.size, 0, none⟩) (Nat.le_refl _) _).setCell (p := ⟨w.heap.size, 1, none⟩) (Nat.le_refl _) _⟩
  · have HNG := hide neg
    have huA : z = (A : Int) := by have := HA.out; omega
    subst huA
    go_enter Tryd.func60, Tryd.ntmps60
    go_wp2
    go_loopw [3, 4] (fun uv dv wr => ∃ (u : Nat) (acc : List Nat), uv = .int .u64 u ∧ u < 18446744073709551616 ∧ OfAt A u acc ∧ Own wr (w.heap.size + 1) dv acc ∧ Below (w.heap.size + 1) (w.alloc (.cells #[.bool false, .slice none 0 0] 61)) wr) (fun uv _ _ => (intOf uv).toNat)
    case atStart => exact ⟨A, [], rfl, HAB.out, OfAt.start A HAB.out, World.ownsRow_nil _ _ _ _, Below.refl _ _⟩
    case round =>
      obtain ⟨u, acc, rfl, hub, hat, hO, hbel⟩ := hrel
      have HAT := hide hat
      have HO := hide hO
      have HBE := hide hbel
      clear hat hO hbel
      by_cases hu : 0 < u
      · have hln := HAT.out.less hu
        have hbs := HBE.out.size
        rw [World.size_alloc] at hbs
        have huI : (u : Int) < 18446744073709551616 := by omega
        have HUB := hide hub
        clear hub
        go_wp2_with (at_builtin; refine wpList_append_own _ rfl _ _ 54 rfl (w.heap.size + 1) 87 i0 (.int .u32 0) 1 4 Tryd.underlying54 hi hz0 hz1 hz2 rfl (by decide) _ _ _ rfl (World.ownsRow.alloc HO.out _) ⟨_, 0, none⟩ 1 1 [.int .u32 (((u : Int) % 65536))] rfl rfl ?_ ?_ ?_ ?_ ?_ ?_)
        · intro i u hi'
          match i, hi' with
          | 0, hi' => simp at hi'; subst hi'; simp [Addr.add]
        · intro u hu; simp at hu; subst hu; rfl
        · unfold maxLen; omega
        · omega
        · simp; omega
        · intro v6 w6 hown6 hgrow6 _
          obtain ⟨hO6, hB6⟩ := own_step (n := u % 65536) (by omega) HO.out hown6 hgrow6 HBE.out hbs (Nat.le_refl _)
          have HO6 := hide hO6
          have HB6 := hide hB6
          clear hown6 hgrow6 hO6 hB6
          go_wp2
          go_roundw
          case rel => exact ⟨u / 65536, _, congrArg (Value.int .u64) (by omega), by have := HUB.out; omega, HAT.out.step hu, HO6.out, HB6.out⟩
          case measure => simp [intOf]; omega
      · have e : u = 0 := by omega
        subst e
        have HR := hide ((Box2.new w _ _ _).below HBE.out (Nat.lt_succ_self _))
        have HNd := hide (HO.out.nums (dok HAT.out.ok))
        have HB1 := hide ((below_alloc w _).trans (HBE.out.mono (Nat.le_succ _)))
        have HV : Hid (D.val acc = A) := hide (by have := HAT.out.sum; simpa using this)
        go_wp2_with fail
        refine (rnorm2_any false _ acc _ HNd.out HAT.out.ok).mono ?_
        rintro e w2 ⟨v2, rfl, hr2, hb2⟩
        rw [HV.out] at hr2
        obtain ⟨b', n', a', c', rfl, hn', he, h0⟩ := hr2
        replace HR := hide (HR.out.step hb2)
        replace HB1 := hide (HB1.out.trans (hb2.mono HB1.out.size))
        have hc0 := HR.out.cell0
        have hc1 := HR.out.cell1
        have hf0 := HR.out.free 0
        have hf1 := HR.out.free 1
        clear hb2
        go_wp2
        refine ret_ref rfl w.heap.size _ _ _ _ rfl ((HR.out.set0 _).set1 _) rfl ?_
        exact ⟨_, rfl, ⟨b', n', a', c', rfl, keeps2 HR.out (by simp) (by simp) _ _ _ _ hn', by rw [← he, sg_false], h0⟩, (HB1.out.setCell (p := ⟨w.heap.size, 0, none⟩) (Nat.le_refl _) _).setCell (p := ⟨w.heap.size, 1, none⟩) (Nat.le_refl _) _⟩
end Go.Proofs.YtenmogmdijnlhaaDoor
