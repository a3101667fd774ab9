/- swagelaw02.of and swagelaw02.is: a number as the program and as the document's answers have it; integer.Int's Limbs. -/
import Derived.Test.YtmibgcpafccliaaDoorMem
import Derived.Test.YtmibgcpafccliaaDoorIVar
import Derived.Test.YtmibgcpafccliaaDoorNorm
import Derived.Test.YtmibgcpafccliaaDoorCalm
namespace Go.Proofs.YtmibgcpafccliaaDoor.D

def BB : Nat := 65536
theorem BB_pos : 0 < BB := by decide

def val : List Nat → Nat
  | [] => 0
  | x :: xs => x + BB * val xs

def lm (xs : List Nat) (i : Nat) : Nat := xs.getD i 0

def Ok (xs : List Nat) : Prop := ∀ x ∈ xs, x < BB

def limF : Nat → Nat → List Nat
  | 0, _ => []
  | f + 1, n => if n = 0 then [] else (n % BB) :: limF f (n / BB)

def lim (n : Nat) : List Nat := limF n n

theorem limF_enough : ∀ f g n, n ≤ f → n ≤ g → limF f n = limF g n := by
  intro f
  induction f with
  | zero => intro g n h1 h2; have : n = 0 := by omega
            subst this; cases g <;> simp [limF]
  | succ f ih =>
    intro g n h1 h2
    by_cases h : n = 0
    · subst h; cases g <;> simp [limF]
    · cases g with
      | zero => omega
      | succ g =>
        have hd : n / BB < n := Nat.div_lt_self (by omega) (by decide)
        simp only [limF, h, if_false]
        rw [ih g (n / BB) (by omega) (by omega)]

theorem lim_zero : lim 0 = [] := rfl
theorem lim_pos {n : Nat} (h : 0 < n) : lim n = (n % BB) :: lim (n / BB) := by
  unfold lim
  cases n with
  | zero => omega
  | succ m =>
    have hd : (m + 1) / BB < m + 1 := Nat.div_lt_self (by omega) (by decide)
    simp only [limF, Nat.succ_ne_zero, if_false]
    rw [limF_enough m ((m + 1) / BB) ((m + 1) / BB) (by omega) (Nat.le_refl _)]

theorem lim_ind {p : Nat → Prop} (h0 : p 0) (h1 : ∀ n, 0 < n → p (n / BB) → p n) (n : Nat) : p n := by
  refine Nat.strongRecOn n (fun n ih => ?_)
  by_cases h : n = 0
  · subst h; exact h0
  · exact h1 n (by omega) (ih _ (Nat.div_lt_self (by omega) (by decide)))

theorem val_lim (n : Nat) : val (lim n) = n := by
  refine lim_ind (p := fun n => val (lim n) = n) rfl (fun n hn ih => ?_) n
  rw [lim_pos hn]; simp only [val]; rw [ih]; exact Nat.mod_add_div n BB

theorem ok_lim (n : Nat) : Ok (lim n) := by
  refine lim_ind (p := fun n => Ok (lim n)) (by intro x hx; cases hx) (fun n hn ih => ?_) n
  rw [lim_pos hn]; intro x hx
  rcases List.mem_cons.1 hx with rfl | h
  · exact Nat.mod_lt _ BB_pos
  · exact ih x h

theorem Ok.nil : Ok [] := by intro x hx; cases hx
theorem Ok.cons {x : Nat} {xs : List Nat} (h : x < BB) (k : Ok xs) : Ok (x :: xs) := by
  intro y hy; rcases List.mem_cons.1 hy with rfl | h'
  · exact h
  · exact k y h'
theorem Ok.tail {x : Nat} {xs : List Nat} (h : Ok (x :: xs)) : Ok xs := fun y hy => h y (List.mem_cons_of_mem _ hy)
theorem Ok.head {x : Nat} {xs : List Nat} (h : Ok (x :: xs)) : x < BB := h x (List.mem_cons_self ..)
theorem Ok.at {xs : List Nat} (h : Ok xs) (i : Nat) : lm xs i < BB := by
  unfold lm
  by_cases hi : i < xs.length
  · rw [List.getD_eq_getElem?_getD, List.getElem?_eq_getElem hi]; exact h _ (List.getElem_mem hi)
  · rw [List.getD_eq_getElem?_getD, List.getElem?_eq_none (by omega)]; exact BB_pos
theorem Ok.take {xs : List Nat} (h : Ok xs) (k : Nat) : Ok (xs.take k) := fun x hx => h x (List.mem_of_mem_take hx)
theorem Ok.drop {xs : List Nat} (h : Ok xs) (k : Nat) : Ok (xs.drop k) := fun x hx => h x (List.mem_of_mem_drop hx)
theorem Ok.append {xs ys : List Nat} (h : Ok xs) (k : Ok ys) : Ok (xs ++ ys) := by
  intro x hx; rcases List.mem_append.1 hx with h' | h'
  · exact h x h'
  · exact k x h'
theorem Ok.set {xs : List Nat} (h : Ok xs) (i x : Nat) (hx : x < BB) : Ok (xs.set i x) := by
  intro y hy; rcases List.mem_or_eq_of_mem_set hy with h' | h'
  · exact h y h'
  · rw [h']; exact hx

theorem val_append (xs ys : List Nat) : val (xs ++ ys) = val xs + BB ^ xs.length * val ys := by
  induction xs with
  | nil => simp [val]
  | cons x xs ih => simp only [List.cons_append, val, List.length_cons, ih, Nat.pow_succ, Nat.mul_add, Nat.add_assoc]; congr 2; rw [← Nat.mul_assoc, Nat.mul_comm BB]

theorem val_lt {xs : List Nat} (h : Ok xs) : val xs < BB ^ xs.length := by
  induction xs with
  | nil => simp [val]
  | cons x xs ih =>
    have h1 := ih h.tail
    have h2 := h.head
    simp only [val, List.length_cons, Nat.pow_succ]
    have : BB * (val xs + 1) ≤ BB * BB ^ xs.length := Nat.mul_le_mul_left _ h1
    rw [Nat.mul_add, Nat.mul_one] at this
    rw [Nat.mul_comm (BB ^ xs.length)]
    omega

theorem val_replicate (n : Nat) : val (List.replicate n 0) = 0 := by
  induction n with
  | zero => rfl
  | succ n ih => simp [List.replicate_succ, val, ih]

/-- a list whose last limb is not 0 is the list of its number -/
theorem lim_val {xs : List Nat} (h : Ok xs) (hl : ∀ x, xs.getLast? = some x → x ≠ 0) : lim (val xs) = xs := by
  induction xs with
  | nil => rfl
  | cons x xs ih =>
    have h1 := h.head
    have hpos : 0 < val (x :: xs) := by
      simp only [val]
      by_cases hx : xs = []
      · subst hx; have := hl x (by simp); omega
      · have ht : lim (val xs) = xs := ih h.tail (fun y hy => hl y (by rw [List.getLast?_cons_of_ne_nil hx]; exact hy))
        have : val xs ≠ 0 := by intro e; rw [e, lim_zero] at ht; exact hx ht.symm
        have : 0 < BB * val xs := Nat.mul_pos BB_pos (by omega)
        omega
    have hm : val (x :: xs) % BB = x := by simp only [val]; rw [Nat.add_mul_mod_self_left]; exact Nat.mod_eq_of_lt h1
    have hd : val (x :: xs) / BB = val xs := by simp only [val]; rw [Nat.add_mul_div_left _ _ BB_pos, Nat.div_eq_of_lt h1, Nat.zero_add]
    rw [lim_pos hpos, hm, hd]
    by_cases hx : xs = []
    · subst hx; rfl
    · rw [ih h.tail (fun y hy => hl y (by rw [List.getLast?_cons_of_ne_nil hx]; exact hy))]

theorem val_eq_zero {xs : List Nat} (h : val xs = 0) : ∀ i, lm xs i = 0 := by
  unfold lm
  induction xs with
  | nil => intro i; simp
  | cons x xs ih =>
    simp only [val] at h
    have hx : x = 0 := by omega
    have hm : BB * val xs = 0 := by omega
    have hv : val xs = 0 := by rcases Nat.mul_eq_zero.1 hm with h' | h'
                               · exact absurd h' (by decide)
                               · exact h'
    intro i; cases i with
    | zero => simpa using hx
    | succ i => simpa using ih hv i

theorem take_succ_val (xs : List Nat) (k : Nat) (h : k < xs.length) : val (xs.take (k + 1)) = val (xs.take k) + BB ^ k * lm xs k := by
  unfold lm
  rw [List.take_succ_eq_append_getElem h, val_append, List.length_take, Nat.min_eq_left (by omega)]
  simp [val, h]

/-- what trim ends with -/
theorem take_lim {xs : List Nat} {k : Nat} (h : Ok xs) (hk : k ≤ xs.length) (hv : val (xs.take k) = val xs) (hz : k = 0 ∨ lm xs (k - 1) ≠ 0) : xs.take k = lim (val xs) := by
  unfold lm at hz
  rw [← hv]
  refine (lim_val (h.take k) (fun x hx => ?_)).symm
  rcases hz with rfl | hz
  · simp at hx
  · by_cases h0 : k = 0
    · subst h0; simp at hx
    · rw [List.getLast?_eq_getElem?, List.length_take, Nat.min_eq_left hk, List.getElem?_take, if_pos (by omega)] at hx
      rw [List.getD_eq_getElem?_getD, hx] at hz
      simpa using hz

theorem lm_take (xs : List Nat) (k i : Nat) (h : i < k) : lm (xs.take k) i = lm xs i := by
  unfold lm; rw [List.getD_eq_getElem?_getD, List.getD_eq_getElem?_getD, List.getElem?_take, if_pos h]
theorem lm_get (xs : List Nat) (i : Nat) (h : i < xs.length) : lm xs i = xs[i] := by
  unfold lm; simp [h]
theorem lm_over (xs : List Nat) (i : Nat) (h : xs.length ≤ i) : lm xs i = 0 := by
  unfold lm; simp [h]

theorem lim_inj {m n : Nat} (h : lim m = lim n) : m = n := by rw [← val_lim m, h, val_lim]

theorem lim_length_le {n k : Nat} (h : n < BB ^ k) : (lim n).length ≤ k := by
  induction k generalizing n with
  | zero => have : n = 0 := by simpa using h
            subst this; simp [lim_zero]
  | succ k ih =>
    by_cases h0 : n = 0
    · subst h0; simp [lim_zero]
    · rw [lim_pos (by omega), List.length_cons]
      have : n / BB < BB ^ k := by rw [Nat.div_lt_iff_lt_mul BB_pos]; rw [Nat.pow_succ] at h; exact h
      have := ih this; omega

theorem lim_val_length {xs : List Nat} (h : Ok xs) : (lim (val xs)).length ≤ xs.length := lim_length_le (val_lt h)

theorem lim_len_lt {m n : Nat} (h : (lim m).length < (lim n).length) : m < n := by
  by_cases hm : m < n
  · exact hm
  · have h1 : n < BB ^ (lim m).length := Nat.lt_of_le_of_lt (Nat.le_of_not_lt hm) (by have := val_lt (ok_lim m); rw [val_lim] at this; exact this)
    have := lim_length_le h1; omega

end Go.Proofs.YtmibgcpafccliaaDoor.D

namespace Go.Proofs.YtmibgcpafccliaaDoor
open Go.RowKit

/-- a number as the document's answers have it: digits to the base 65536 -/
def RInt (w : World) (v : Value) (z : Int) : Prop :=
  ∃ (b : Bool) (n : Nat) (a : Option Addr) (cap : Nat), v = .agg #[.bool b, .slice a (D.lim n).length cap] ∧ Nums w (.slice a (D.lim n).length cap) (D.lim n) ∧ z = sg b n ∧ (n = 0 → b = false)
theorem RInt.below {w w' : World} {v : Value} {z : Int} (h : RInt w v z) (hb : Below w.heap.size w w') : RInt w' v z := by
  obtain ⟨b, n, a, cap, rfl, hn, rfl, h0⟩ := h
  exact ⟨b, n, a, cap, rfl, hn.below hb, rfl, h0⟩
theorem RInt.drew {w : World} {v : Value} {z : Int} (h : RInt w v z) : RInt w.drew v z := h
theorem RInt.keep {w w' : World} {v : Value} {z : Int} (h : RInt w v z) (k : Spares w w') : RInt w' v z := by
  obtain ⟨b, n, a, cap, rfl, hn, rfl, h0⟩ := h
  exact ⟨b, n, a, cap, rfl, k _ _ hn, rfl, h0⟩

theorem Tryd.infoRef : (Tryd.prog.info? 46).map (·.size) = some 2 := by kernel_rfl
theorem ret_ref {fn : Func} {R : Ending → World → Prop} {a : Act} {w : World} {p : Tmp} (h : fn.results = #[.cell p 46]) (g : Nat) (x y : Value) (t : TypeId) (fr : Nat × Nat)
    (hp : a.tmps.getD p undef = .pointer (some ⟨g, 0, none⟩)) (hg : w.heap[g]? = some (.cells #[x, y] t fr)) (hd : a.defers = []) (hR : R (.returned (.agg #[x, y])) w) : bodyPost Tryd.prog fn R .ret a w := by
  refine bodyPost_ret ?_ hd hR
  have hp' : a.tmps[p]?.getD undef = .pointer (some ⟨g, 0, none⟩) := by simpa using hp
  simp [results, h, hp', asAddr, run_loadVar_row w g t 46 #[x, y] fr _ hg Tryd.underlying46 rfl Tryd.infoRef]

theorem dok {xs : List Nat} (h : D.Ok xs) : Ok xs := fun x hx => Nat.lt_of_lt_of_le (h x hx) (by decide)
theorem dtrim_step {xs : List Nat} {k : Nat} (hk : k + 1 ≤ xs.length) (hv : D.val (xs.take (k + 1)) = D.val xs) (hz : lm xs k = 0) : D.val (xs.take k) = D.val xs := by
  rw [D.take_succ_val xs k (by omega), show D.lm xs k = lm xs k from rfl, hz] at hv; simpa using hv
theorem dtrim_end {w w' : World} {a : Option Addr} {cap k : Nat} {b : Bool} {xs : List Nat} (hN : Nums w (.slice a xs.length cap) xs) (hd : D.Ok xs) (hk : k ≤ xs.length) (hv : D.val (xs.take k) = D.val xs)
    (hz : k = 0 ∨ lm xs (k - 1) ≠ 0) (hb : Below w.heap.size w w') (s : Bool) (hs : s = (b && decide (0 < k))) : RInt w' (.agg #[.bool s, .slice a k cap]) (sg b (D.val xs)) := by
  have e := D.take_lim hd hk hv hz
  have hT := hN.take k hk
  rw [e] at hT
  have e0 : (D.lim (D.val xs)).length = k := by rw [← e, List.length_take]; omega
  subst hs
  refine ⟨_, D.val xs, a, cap, by rw [e0], by rw [e0]; exact hT.below hb, ?_, fun h => ?_⟩
  · by_cases h0 : k = 0
    · have : D.val xs = 0 := by rw [← hv, h0]; rfl
      rw [this, sg_zero, sg_zero]
    · rw [decide_eq_true (by omega), Bool.and_true]
  · rw [h] at e0
    have : k = 0 := by rw [← e0]; rfl
    subst this; simp

set_option maxRecDepth 100000 in
set_option maxHeartbeats 1000000 in
theorem rnorm2_any (s : Bool) (v : Value) (xs : List Nat) (w : World) (h : Nums w v xs) (hd : D.Ok xs) :
    Calls Tryd.prog 66 #[.bool s, v] w fun e w' => ∃ v', e = .returned v' ∧ RInt w' v' (sg s (D.val xs)) ∧ Below w.heap.size w w' := by
  have hN : Hid (Nums w v xs) := h
  have HD := hide hd
  rcases h.cases with ⟨rfl, a, cap, rfl, hcap⟩ | ⟨hpos, b, off, cap, rfl, hl, hm, hb, hc⟩
  · clear h hd
    unfold maxLen at hcap
    go_enter Tryd.func66, Tryd.ntmps66
    go_wp2
    refine wp_loop_rounds 1 ?_
    rw [rounds_succ]
    cases s <;> cases a
    all_goals
      go_wp2
      refine ret_ref rfl w.heap.size _ _ _ _ rfl (heap_alloc_new _ _) rfl ?_
      exact ⟨_, rfl, dtrim_end (k := 0) hN.out HD.out (Nat.zero_le _) rfl (.inl rfl) (below_alloc w _) _ (by simp), below_alloc _ _⟩
  · clear h hd
    have hc' : ∀ i, i < xs.length → (w.alloc (.cells #[.bool false, .slice none 0 0] 46)).cell? ⟨b, off + i, none⟩ = some (.int .u32 (lm xs i : Nat)) := fun i hi => by
      rw [(below_alloc w _).cell (World.block_lt_of_cell? w _ (hc i hi))]; exact hc i hi
    clear hc
    unfold maxLen at hm
    go_enter Tryd.func66, Tryd.ntmps66
    go_wp2
    go_loopw [5] (fun n wr => ∃ k : Nat, k ≤ xs.length ∧ n = .int .i64 k ∧ D.val (xs.take k) = D.val xs ∧ wr = w.alloc (.cells #[.bool false, .slice none 0 0] 46)) (fun n _ => (intOf n).toNat)
    case atStart => exact ⟨xs.length, Nat.le_refl _, rfl, by rw [List.take_length], rfl⟩
    case round =>
      obtain ⟨k, hk, rfl, hv, rfl⟩ := hrel
      have HV : Hid (D.val (xs.take k) = D.val xs) := hv
      clear hv
      cases k with
      | zero =>
        cases s with
        | true =>
          go_wp2
          refine ret_ref rfl w.heap.size _ _ _ _ rfl (heap_alloc_new _ _) rfl ?_
          exact ⟨_, rfl, dtrim_end hN.out HD.out (Nat.zero_le _) HV.out (.inl rfl) (below_alloc _ _) _ (by simp), below_alloc _ _⟩
        | false =>
          go_wp2
          refine ret_ref rfl w.heap.size _ _ _ _ rfl (heap_alloc_new _ _) rfl ?_
          exact ⟨_, rfl, dtrim_end hN.out HD.out (Nat.zero_le _) HV.out (.inl rfl) (below_alloc _ _) _ (by simp), below_alloc _ _⟩
      | succ k =>
        have hck := hc' k (by omega)
        by_cases hz : lm xs k = 0
        · have hz' : (((lm xs k : Nat) : Int) == 0) = true := by simpa using hz
          have HZ : Hid (lm xs k = 0) := hz
          clear hz
          go_wp2
          go_roundw
          case rel => exact ⟨k, by omega, by go_num, dtrim_step hk HV.out HZ.out, trivial⟩
          case measure => simp [intOf]
        · have hz' : (((lm xs k : Nat) : Int) == 0) = false := by simpa using hz
          cases s with
          | true =>
            go_wp2
            refine ret_ref rfl w.heap.size _ _ _ _ rfl (heap_alloc_new _ _) rfl ?_
            exact ⟨_, rfl, dtrim_end hN.out HD.out hk HV.out (.inr hz) (below_alloc _ _) _ (by simp), below_alloc _ _⟩
          | false =>
            go_wp2
            refine ret_ref rfl w.heap.size _ _ _ _ rfl (heap_alloc_new _ _) rfl ?_
            exact ⟨_, rfl, dtrim_end hN.out HD.out hk HV.out (.inr hz) (below_alloc _ _) _ (by simp), below_alloc _ _⟩
end Go.Proofs.YtmibgcpafccliaaDoor

namespace Go.Proofs.YtmibgcpafccliaaDoor
open Go.RowKit

/-- an append to what is owned, as one step of a statement that draws its order -/
theorem oper_append_own {P : Program} {o : Oper} {a : Act} {w : World} {K : Act → World → Prop} {Q : Exit → Act → World → Prop} (s x : Operand) (t : TypeId) (hop : o.op = Op.call { callee := Callee.builtin Builtin.append, args := #[s, x], argTypes := #[t, t] })
    (base : Nat) (e : TypeId) (i : TypeInfo) (z : Value) (size bytes : Nat) (h1 : P.underlying t = some (.slice e)) (h2 : P.info? e = some i) (h3 : i.zero = some z) (h4 : i.size = size) (h5 : i.bytes = bytes) (h6 : z.cells.size = size) (h7 : 0 < size)
    (v : Value) (n : Nat) (olds : List Value) (hs : a.eval s = v) (hO : w.ownsRow base e size v n olds) (ad : Addr) (m c : Nat) (news : List Value) (hx : a.eval x = .slice (some ad) m c) (hn : news.length = m * size)
    (hc : ∀ j u, news[j]? = some u → w.cell? (ad.add j) = some u) (h1c : ∀ u ∈ news, u.oneCell' = true) (b1 : n + m ≤ maxLen) (b2 : (n + m) * bytes ≤ 140737488355328) (hb : base ≤ w.heap.size)
    (hK : ∀ v' w', w'.ownsRow base e size v' (n + m) (olds ++ news) → w.grownBy w' v.ownBlock → K (a.put o.dst v') w') : Oper.wp P o a w K Q := by
  obtain ⟨v', w', hrun, r1, r2, _⟩ := run_append_own (P := P) w base t o.type e i z size bytes h1 h2 h3 h4 h5 h6 h7 v n olds hO ad m c news hn hc h1c b1 b2 hb
  unfold Oper.wp
  simp [execOp, hop, resolve, invoke, builtin, hs, hx, hrun, Result.andThen]
  exact hK v' w' r1 r2

/-- each limb as two digits -/
def two : List Nat → List Nat
  | [] => []
  | x :: xs => x % 65536 :: x / 65536 :: two xs
theorem two_length (xs : List Nat) : (two xs).length = 2 * xs.length := by
  induction xs with
  | nil => rfl
  | cons x xs ih => simp only [two, List.length_cons, ih]; omega
theorem two_ok {xs : List Nat} (h : Ok xs) : D.Ok (two xs) := by
  induction xs with
  | nil => exact D.Ok.nil
  | cons x xs ih =>
    have := h.head
    exact D.Ok.cons (Nat.mod_lt _ (by decide)) (D.Ok.cons (by unfold BB at this; unfold D.BB; omega) (ih h.tail))
theorem two_val (xs : List Nat) : D.val (two xs) = val xs := by
  induction xs with
  | nil => rfl
  | cons x xs ih =>
    simp only [two, D.val, val, ih]
    unfold D.BB BB
    omega
theorem two_snoc (xs : List Nat) (x : Nat) : two (xs ++ [x]) = two xs ++ [x % 65536, x / 65536] := by
  induction xs with
  | nil => rfl
  | cons y xs ih => simp only [List.cons_append, two, ih]
theorem take_snoc (xs : List Nat) (k : Nat) (h : k < xs.length) : xs.take (k + 1) = xs.take k ++ [lm xs k] := by
  rw [List.take_succ_eq_append_getElem h, lm_get _ _ h]

theorem make_next {w1 wr w' : World} {T : Nat} {dv v' : Value} {o : Obj} {acc : List Nat} {m n : Nat} (hT : T ≤ wr.heap.size) (hO : Own wr T dv acc) (hB : Below T w1 wr) (hown : w'.ownsRow T 32 1 v' (acc.length + 2) (ints acc ++ [.int .u32 (m : Nat), .int .u32 (n : Nat)]))
    (hg : ((wr.alloc o).drew).grownBy w' dv.ownBlock) : Own w' T v' (acc ++ [m, n]) ∧ Below T w1 w' := by
  refine ⟨?_, ?_⟩
  · unfold Own
    have : ints (acc ++ [m, n]) = ints acc ++ [.int .u32 (m : Nat), .int .u32 (n : Nat)] := by simp [ints]
    rw [this, List.length_append]; exact hown
  · exact (((hB.alloc hT o).drew).grown hg (by simp; omega) (fun k hk => (hO.lt k hk).1))

/-- both cells of a block written anew: all limbs lie as they lay -/
theorem keeps2 {W : World} {B : Nat} {t : TypeId} {x y : Value} (h : Box2 W B t x y) (hx : ∀ z, x ≠ .int .u32 z) (hy : ∀ z, y ≠ .int .u32 z) (x' y' : Value) : Spares W ((W.setCell ⟨B, 0, none⟩ x').setCell ⟨B, 1, none⟩ y') :=
  (Spares.set h.cell0 hx x').trans (Spares.set (h.set0 x').cell1 hy y')
theorem make_lo (x : Nat) (h : x < 4294967296) : (x : Int).tmod 65536 = ((x % 65536 : Nat) : Int) := by rw [Int.tmod_eq_emod_of_nonneg (by omega)]; omega
theorem make_hi (x : Nat) (h : x < 4294967296) : IntKind.u32.wrap ((x : Int) / 65536) = ((x / 65536 : Nat) : Int) := by rw [IntKind.wrap_u32]; omega

set_option maxRecDepth 100000 in
set_option maxHeartbeats 2000000 in
theorem rmake_any (s : Bool) (v : Value) (xs : List Nat) (w : World) (h : Nums w v xs) (hl : xs.length ≤ 1000000000) :
    Calls Tryd.prog 59 #[.bool s, v] w fun e w' => ∃ v', e = .returned v' ∧ RInt w' v' (sg s (val xs)) ∧ Below w.heap.size w w' := by
  obtain ⟨i0, hi, hz0, hz1, hz2⟩ := info_parts Tryd.info32
  have HN := hide h
  have HOK := hide h.ok
  obtain ⟨_, a, cap, rfl, hlc, hm, _⟩ := h
  unfold maxLen at hm
  go_enter Tryd.func59, Tryd.ntmps59
  go_wp2
  go_loopw [5, 6] (fun dv iv wr => ∃ k : Nat, k ≤ xs.length ∧ iv = .int .i64 k ∧ Own wr (w.heap.size + 1) dv (two (xs.take k)) ∧ Below (w.heap.size + 1) (w.alloc (.cells #[.bool false, .slice none 0 0] 46)) wr) (fun _ iv _ => xs.length - (intOf iv).toNat)
  case atStart => exact ⟨0, Nat.zero_le _, rfl, World.ownsRow_nil _ _ _ _, Below.refl _ _⟩
  case round =>
    obtain ⟨k, hk, rfl, hO, hbel⟩ := hrel
    have HO := hide hO
    have HBE := hide hbel
    clear hO hbel
    by_cases hlt : k < xs.length
    · have HNr := hide (HN.out.below ((below_alloc w _).trans (HBE.out.mono (Nat.le_succ _))))
      obtain ⟨blk, off, rfl, hck⟩ : ∃ blk off, a = some ⟨blk, off, none⟩ ∧ wr.cell? ⟨blk, off + k, none⟩ = some (.int .u32 (lm xs k : Nat)) := by
        obtain ⟨_, a', c', he, _, _, h3⟩ := HNr.out
        simp only [Value.slice.injEq] at he
        obtain ⟨rfl, _, rfl⟩ := he
        obtain ⟨b, off, rfl, hc⟩ := h3 (ne_nil hlt)
        exact ⟨b, off, rfl, hc k hlt⟩
      have hxk : lm xs k < 4294967296 := HOK.out.at k
      have HCW : Hid (∀ W, Below (w.heap.size + 1) (w.alloc (.cells #[.bool false, .slice none 0 0] 46)) W → W.cell? ⟨blk, off + k, none⟩ = some (.int .u32 (lm xs k : Nat))) := hide fun W hB => by
        obtain ⟨_, a', c', he, _, _, h3⟩ := HN.out
        simp only [Value.slice.injEq] at he
        obtain ⟨e1, _, rfl⟩ := he
        obtain ⟨b, off', e2, hc⟩ := h3 (ne_nil hlt)
        subst e2
        simp only [Option.some.injEq, Addr.mk.injEq, and_true] at e1
        obtain ⟨rfl, rfl⟩ := e1
        have h0 := hc k hlt
        have hb0 := World.block_lt_of_cell? w _ h0
        rw [hB.cell (by exact Nat.lt_succ_of_lt hb0), (below_alloc w _).cell hb0]
        exact h0
      have HTL : Hid ((two (xs.take k)).length ≤ 2000000000) := hide (by rw [two_length, List.length_take]; omega)
      clear hck HNr
      go_wp2_with fail
      refine wp_calm (fun w' => w'.cell? ⟨blk, off + k, none⟩ = some (.int .u32 (lm xs k : Nat))) (fun _ => true) 14 #[false, false, false, false, false, false, false, false, false, false, false, false, false, false] (by kernel_rfl) rfl rfl ?_
      have HF := hide (HCW.out _ HBE.out.drew)
      refine Calm.take (i := 0) (v := ?_) (a' := ?_) (l' := #[true, false, false, false, false, false, false, false, false, false, false, false, false, false]) (d := some 13) rfl (by kernel_rfl) (by kernel_rfl) (by kernel_rfl) (by kernel_rfl) (fun _ _ _ h => h) HF.out rfl ?_ rfl rfl ?_ ?_
      rotate_left
      · intro w' hF; go_simp; try rfl
      rotate_left
      · simp only [Act.put]; exact rfl
      refine Calm.take (i := 1) (v := ?_) (a' := ?_) (l' := #[true, true, false, false, false, false, false, false, false, false, false, false, false, false]) (d := some 14) rfl (by kernel_rfl) (by kernel_rfl) (by kernel_rfl) (by kernel_rfl) (fun _ _ _ h => h) HF.out rfl ?_ rfl rfl ?_ ?_
      rotate_left
      · intro w' hF; go_simp; try rfl
      rotate_left
      · simp only [Act.put]; exact rfl
      refine Calm.take (i := 2) (v := ?_) (a' := ?_) (l' := #[true, true, true, false, false, false, false, false, false, false, false, false, false, false]) (d := some 15) rfl (by kernel_rfl) (by kernel_rfl) (by kernel_rfl) (by kernel_rfl) (fun _ _ _ h => h) HF.out rfl ?_ rfl rfl ?_ ?_
      rotate_left
      · intro w' hF; go_simp; try rfl
      rotate_left
      · simp only [Act.put]; exact rfl
      refine Calm.take (i := 3) (v := ?_) (a' := ?_) (l' := #[true, true, true, true, false, false, false, false, false, false, false, false, false, false]) (d := some 16) rfl (by kernel_rfl) (by kernel_rfl) (by kernel_rfl) (by kernel_rfl) (fun _ _ _ h => h) HF.out rfl ?_ rfl rfl ?_ ?_
      rotate_left
      · intro w' hF; go_simp; try rfl
      rotate_left
      · simp only [Act.put]; exact rfl
      refine Calm.take (i := 4) (v := ?_) (a' := ?_) (l' := #[true, true, true, true, true, false, false, false, false, false, false, false, false, false]) (d := some 17) rfl (by kernel_rfl) (by kernel_rfl) (by kernel_rfl) (by kernel_rfl) (fun _ _ _ h => h) HF.out rfl ?_ rfl rfl ?_ ?_
      rotate_left
      · intro w' hF; go_simp; try rfl
      rotate_left
      · simp only [Act.put]; exact rfl
      refine Calm.take (i := 5) (v := ?_) (a' := ?_) (l' := #[true, true, true, true, true, true, false, false, false, false, false, false, false, false]) (d := some 18) rfl (by kernel_rfl) (by kernel_rfl) (by kernel_rfl) (by kernel_rfl) (fun _ _ _ h => h) HF.out rfl ?_ rfl rfl ?_ ?_
      rotate_left
      · intro w' hF; go_simp; try rfl
      rotate_left
      · simp only [Act.put]; exact rfl
      refine Calm.take (i := 6) (v := ?_) (a' := ?_) (l' := #[true, true, true, true, true, true, true, false, false, false, false, false, false, false]) (d := some 19) rfl (by kernel_rfl) (by kernel_rfl) (by kernel_rfl) (by kernel_rfl) (fun _ _ _ h => h) HF.out rfl ?_ rfl rfl ?_ ?_
      rotate_left
      · intro w' hF; go_simp; try rfl
      rotate_left
      · simp only [Act.put]; exact rfl
      refine Calm.take (i := 7) (v := ?_) (a' := ?_) (l' := #[true, true, true, true, true, true, true, true, false, false, false, false, false, false]) (d := some 20) rfl (by kernel_rfl) (by kernel_rfl) (by kernel_rfl) (by kernel_rfl) (fun _ _ _ h => h) HF.out rfl ?_ rfl rfl ?_ ?_
      rotate_left
      · intro w' hF; go_simp; try rfl
      rotate_left
      · simp only [Act.put]; exact rfl
      refine Calm.take (i := 8) (v := ?_) (a' := ?_) (l' := #[true, true, true, true, true, true, true, true, true, false, false, false, false, false]) (d := some 21) rfl (by kernel_rfl) (by kernel_rfl) (by kernel_rfl) (by kernel_rfl) (fun _ _ _ h => h) HF.out rfl ?_ rfl rfl ?_ ?_
      rotate_left
      · intro w' hF; go_simp; try rfl
      rotate_left
      · simp only [Act.put]; exact rfl
      refine Calm.take (i := 9) (v := ?_) (a' := ?_) (l' := #[true, true, true, true, true, true, true, true, true, true, false, false, false, false]) (d := some 22) rfl (by kernel_rfl) (by kernel_rfl) (by kernel_rfl) (by kernel_rfl) (fun _ _ _ h => h) HF.out rfl ?_ rfl rfl ?_ ?_
      rotate_left
      · intro w' hF; go_simp; try rfl
      rotate_left
      · simp only [Act.put]; exact rfl
      refine Calm.take (i := 10) (v := ?_) (a' := ?_) (l' := #[true, true, true, true, true, true, true, true, true, true, true, false, false, false]) (d := some 23) rfl (by kernel_rfl) (by kernel_rfl) (by kernel_rfl) (by kernel_rfl) (fun _ _ _ h => h) HF.out rfl ?_ rfl rfl ?_ ?_
      rotate_left
      · intro w' hF; go_simp; try rfl
      rotate_left
      · simp only [Act.put]; exact rfl
      refine Calm.one (i := 11) (l' := #[true, true, true, true, true, true, true, true, true, true, true, true, false, false]) (by kernel_rfl) rfl rfl rfl fun K hK => ?_
      go_simp
      refine hK _ _ (fun _ => HCW.out _ (HBE.out.alloc (by have := HBE.out.size; simpa using this) _).drew) ?_
      clear hK K
      rw [make_lo _ hxk, make_hi _ hxk]
      refine Calm.one (i := 12) (l' := #[true, true, true, true, true, true, true, true, true, true, true, true, true, false]) (by kernel_rfl) rfl rfl rfl fun K hK => ?_
      refine oper_append_own (.tmp 13) (.tmp 24) 22 rfl (w.heap.size + 1) 32 i0 (.int .u32 0) 1 4 Tryd.underlying22 hi hz0 hz1 hz2 rfl (by decide) _ _ _ rfl (World.ownsRow.alloc HO.out _) ⟨wr.heap.size, 0, none⟩ 2 2 [.int .u32 ((lm xs k % 65536 : Nat) : Int), .int .u32 ((lm xs k / 65536 : Nat) : Int)] rfl rfl ?_ ?_ ?_ ?_ ?_ ?_
      · intro i u hi'
        match i, hi' with
        | 0, hi' => simp at hi'; subst hi'; simp [Addr.add]
        | 1, hi' => simp at hi'; subst hi'; simp [Addr.add]
      · intro u hu; simp at hu; rcases hu with rfl | rfl <;> rfl
      · have := HTL.out; unfold maxLen; omega
      · have := HTL.out; omega
      · have := HBE.out.size; simp at this ⊢; omega
      intro v' w2 hown hgrow
      obtain ⟨hO2, hB2⟩ := make_next (by have := HBE.out.size; simpa using this) HO.out HBE.out hown hgrow
      have HO2 := hide hO2
      have HB2 := hide hB2
      clear hown hgrow hO2 hB2
      refine hK _ _ (fun _ => HCW.out _ HB2.out) ?_
      clear hK K
      simp only [Act.put]
      have HF := hide (HCW.out _ HB2.out)
      refine Calm.take (i := 13) (v := ?_) (a' := ?_) (l' := #[true, true, true, true, true, true, true, true, true, true, true, true, true, true]) (d := some 5) rfl (by kernel_rfl) (by kernel_rfl) (by kernel_rfl) (by kernel_rfl) (fun _ _ _ h => h) HF.out rfl ?_ rfl rfl ?_ ?_
      rotate_left
      · intro w' hF; go_simp; try rfl
      rotate_left
      · simp only [Act.put]; exact rfl
      refine Calm.done (by kernel_rfl) ?_
      go_wp2
      go_roundw
      case rel => exact ⟨k + 1, by omega, by go_num, by rw [take_snoc xs k hlt, two_snoc]; exact HO2.out, HB2.out⟩
      case measure => simp [intOf]; omega
    · have e : k = xs.length := by omega
      subst e
      have HR := hide ((Box2.new w _ _ _).below HBE.out (Nat.lt_succ_self _))
      have HO1 := hide HO.out
      rw [List.take_length] at HO1
      have HNd := hide (HO1.out.nums (dok (two_ok HOK.out)))
      have HB1 := hide ((below_alloc w _).trans (HBE.out.mono (Nat.le_succ _)))
      clear HO HBE
      go_wp2_with fail
      refine (rnorm2_any s _ (two xs) _ HNd.out (two_ok HOK.out)).mono ?_
      rintro e w2 ⟨v2, rfl, hr2, hb2⟩
      rw [two_val] at hr2
      obtain ⟨b', n', a', c', rfl, hn', he, h0⟩ := hr2
      replace HR := hide (HR.out.step hb2)
      replace HB1 := hide (HB1.out.trans (hb2.mono HB1.out.size))
      have hc0 := HR.out.cell0
      have hc1 := HR.out.cell1
      have hf0 := HR.out.free 0
      have hf1 := HR.out.free 1
      clear hb2
      go_wp2
      refine ret_ref rfl w.heap.size _ _ _ _ rfl ((HR.out.set0 _).set1 _) rfl ?_
      exact ⟨_, rfl, ⟨b', n', a', c', rfl, keeps2 HR.out (by simp) (by simp) _ _ _ _ hn', he, h0⟩, (HB1.out.setCell (p := ⟨w.heap.size, 0, none⟩) (Nat.le_refl _) _).setCell (p := ⟨w.heap.size, 1, none⟩) (Nat.le_refl _) _⟩
end Go.Proofs.YtmibgcpafccliaaDoor

namespace Go.Proofs.YtmibgcpafccliaaDoor
open Go.RowKit

/-- one more limb behind what is owned -/
theorem own_step {w5 w6 w1 : World} {base T : Nat} {v5 v6 : Value} {acc : List Nat} {x : Int} {n : Nat} (hx : x = (n : Int)) {o : Obj} (hO : Own w5 base v5 acc)
    (hown6 : w6.ownsRow base 32 1 v6 (acc.length + 1) (ints acc ++ [Value.int .u32 x])) (hgrow6 : (w5.alloc o).grownBy w6 v5.ownBlock) (hB5 : Below T w1 w5) (hT : T ≤ w5.heap.size) (hb : T ≤ base) :
    Own w6 base v6 (acc ++ [n]) ∧ Below T w1 w6 := by
  constructor
  · subst hx
    have e1 : ints acc ++ [Value.int .u32 (n : Int)] = ints (acc ++ [n]) := by simp [ints]
    rw [e1] at hown6
    show World.ownsRow _ _ _ _ _ _ _; simpa using hown6
  · exact (hB5.alloc hT o).grown hgrow6 (by simp; omega) (fun k hk => Nat.le_trans hb (hO.lt k hk).1)

/-- two digits a limb -/
def jnd (ds : List Nat) (k : Nat) : List Nat := (List.range k).map fun j => lm ds (2 * j) + 65536 * lm ds (2 * j + 1)
theorem jnd_length (ds : List Nat) (k : Nat) : (jnd ds k).length = k := by simp [jnd]
theorem jnd_succ (ds : List Nat) (k : Nat) : jnd ds (k + 1) = jnd ds k ++ [lm ds (2 * k) + 65536 * lm ds (2 * k + 1)] := by simp [jnd, List.range_succ]
theorem dlm_lt {ds : List Nat} (h : D.Ok ds) (i : Nat) : lm ds i < 65536 := h.at i
theorem jnd_ok {ds : List Nat} (h : D.Ok ds) (k : Nat) : Ok (jnd ds k) := by
  intro x hx
  obtain ⟨j, _, rfl⟩ := List.mem_map.1 hx
  have h1 := dlm_lt h (2 * j)
  have h2 := dlm_lt h (2 * j + 1)
  unfold BB; omega
theorem dtake_succ (ds : List Nat) (k : Nat) : D.val (ds.take (k + 1)) = D.val (ds.take k) + 65536 ^ k * lm ds k := by
  by_cases h : k < ds.length
  · exact D.take_succ_val ds k h
  · rw [List.take_of_length_le (by omega), List.take_of_length_le (by omega), lm_over _ _ (by omega)]; simp
theorem bb_pow (k : Nat) : BB ^ k = 65536 ^ (2 * k) := by rw [Nat.pow_mul]; rfl
theorem jnd_val (ds : List Nat) (k : Nat) : val (jnd ds k) = D.val (ds.take (2 * k)) := by
  induction k with
  | zero => rfl
  | succ k ih =>
    rw [jnd_succ, val_append, jnd_length, ih, show 2 * (k + 1) = 2 * k + 1 + 1 from by omega, dtake_succ, dtake_succ, bb_pow, Nat.pow_succ]
    simp only [val, Nat.mul_zero, Nat.add_zero]
    rw [Nat.mul_add, Nat.add_assoc, Nat.mul_assoc]
theorem dlim_last {n : Nat} (h : 0 < (D.lim n).length) : lm (D.lim n) ((D.lim n).length - 1) ≠ 0 := by
  revert h
  refine D.lim_ind (p := fun n => 0 < (D.lim n).length → lm (D.lim n) ((D.lim n).length - 1) ≠ 0) (fun h => by simp [D.lim_zero] at h) (fun n hn ih _ => ?_) n
  rw [D.lim_pos hn]
  by_cases h0 : D.lim (n / D.BB) = []
  · rw [h0]
    have hz : n / D.BB = 0 := by rw [← D.val_lim (n / D.BB), h0]; rfl
    have : n % D.BB = n := Nat.mod_eq_of_lt ((Nat.div_eq_zero_iff_lt D.BB_pos).1 hz)
    simp [lm, this]; omega
  · have hp : 0 < (D.lim (n / D.BB)).length := List.length_pos_iff.2 h0
    have := ih hp
    obtain ⟨m, hm⟩ : ∃ m, (D.lim (n / D.BB)).length = m + 1 := ⟨_, (Nat.succ_pred_eq_of_pos hp).symm⟩
    rw [List.length_cons, hm] 
    rw [hm] at this
    simpa [lm] using this
theorem jnd_lim {n k : Nat} (h1 : (D.lim n).length ≤ 2 * k) (h2 : 2 * k ≤ (D.lim n).length + 1) : jnd (D.lim n) k = lim n := by
  have hv : val (jnd (D.lim n) k) = n := by rw [jnd_val, List.take_of_length_le h1, D.val_lim]
  have := lim_val (jnd_ok (D.ok_lim n) k) (fun x hx => ?_)
  · rw [← this, hv]
  · cases k with
    | zero => simp [jnd] at hx
    | succ k =>
      rw [jnd_succ, List.getLast?_concat] at hx
      simp only [Option.some.injEq] at hx
      subst hx
      have hp : 0 < (D.lim n).length := by omega
      have hl := dlim_last hp
      by_cases e : (D.lim n).length = 2 * k + 1
      · rw [e, show 2 * k + 1 - 1 = 2 * k from by omega] at hl; omega
      · have e' : (D.lim n).length = 2 * k + 2 := by omega
        rw [e', show 2 * k + 2 - 1 = 2 * k + 1 from by omega] at hl; omega

set_option maxRecDepth 100000 in
set_option maxHeartbeats 2000000 in
theorem rlimbs_any (v : Value) (z : Int) (w : World) (h : RInt w v z) (hl : (D.lim z.natAbs).length ≤ 1000000000) :
    Calls Tryd.prog 65 #[v] w fun e w' => ∃ v', e = .returned v' ∧ Nums w' v' (lim z.natAbs) ∧ Below w.heap.size w w' := by
  obtain ⟨i0, hi, hz0, hz1, hz2⟩ := info_parts Tryd.info32
  obtain ⟨s, N, a, cap, rfl, hn, rfl, _⟩ := h
  rw [sg_abs] at hl ⊢
  obtain ⟨ds, hds⟩ : ∃ ds, ds = D.lim N := ⟨_, rfl⟩
  have HJ : Hid (∀ k, ds.length ≤ 2 * k → 2 * k ≤ ds.length + 1 → jnd ds k = lim N) := hide (by rw [hds]; exact fun k => jnd_lim)
  have HOK : Hid (D.Ok ds) := hide (by rw [hds]; exact D.ok_lim N)
  rw [← hds] at hn hl ⊢
  clear hds
  have HN := hide hn
  obtain ⟨_, a', c', he, hlc, hm, _⟩ := hn
  simp only [Value.slice.injEq] at he
  obtain ⟨rfl, _, rfl⟩ := he
  unfold maxLen at hm
  go_enter Tryd.func65, Tryd.ntmps65
  go_wp2
  go_loopw [3, 4] (fun lv iv wr => ∃ k i : Nat, Hid (i = 2 * k) ∧ i ≤ ds.length + 1 ∧ iv = .int .i64 i ∧ Own wr (w.heap.size + 1) lv (jnd ds k) ∧ Below (w.heap.size + 1) (w.alloc (.cells #[.bool s, .slice a ds.length cap] 46)) wr) (fun _ iv _ => ds.length + 2 - (intOf iv).toNat)
  case atStart => exact ⟨0, 0, rfl, Nat.zero_le _, rfl, World.ownsRow_nil _ _ _ _, Below.refl _ _⟩
  case round =>
    obtain ⟨k, i, HIK, hk, rfl, hO, hbel⟩ := hrel
    have HO := hide hO
    have HBE := hide hbel
    have HX := hide ((Box2.new w _ _ _).below hbel (Nat.lt_succ_self _))
    have hx1 := HX.out.cell1
    clear hO hbel
    by_cases hlt : i < ds.length
    · have HNr := hide (HN.out.below ((below_alloc w _).trans (HBE.out.mono (Nat.le_succ _))))
      obtain ⟨blk, off, rfl, hc⟩ : ∃ blk off, a = some ⟨blk, off, none⟩ ∧ ∀ i, i < ds.length → wr.cell? ⟨blk, off + i, none⟩ = some (.int .u32 (lm ds i : Nat)) := by
        obtain ⟨_, a', c', he, _, _, h3⟩ := HNr.out
        simp only [Value.slice.injEq] at he
        obtain ⟨rfl, _, rfl⟩ := he
        obtain ⟨b, off, rfl, hc⟩ := h3 (ne_nil hlt)
        exact ⟨b, off, rfl, hc⟩
      have hc0 := hc i hlt
      have hd0 := dlm_lt HOK.out i
      have hln : (jnd ds k).length ≤ 600000000 := by rw [jnd_length]; have := HIK.out; omega
      have hbs := HBE.out.size
      rw [World.size_alloc] at hbs
      by_cases hlt2 : i + 1 < ds.length
      · have hc1 := hc (i + 1) hlt2
        have hd1 := dlm_lt HOK.out (i + 1)
        clear hc HNr
        go_wp2_with (at_builtin; refine wpList_append_own _ rfl _ _ 22 rfl (w.heap.size + 1) 32 i0 (.int .u32 0) 1 4 Tryd.underlying22 hi hz0 hz1 hz2 rfl (by decide) _ _ _ rfl (World.ownsRow.alloc HO.out _) ⟨_, 0, none⟩ 1 1 [.int .u32 (((lm ds i : Int) + 65536 * (lm ds (i + 1) : Int)))] rfl rfl ?_ ?_ ?_ ?_ ?_ ?_)
        · intro i u hi'
          match i, hi' with
          | 0, hi' => simp at hi'; subst hi'; simp [Addr.add]
        · intro u hu; simp at hu; subst hu; rfl
        · unfold maxLen; omega
        · omega
        · simp; omega
        · intro v6 w6 hown6 hgrow6 _
          obtain ⟨hO6, hB6⟩ := own_step (n := lm ds i + 65536 * lm ds (i + 1)) (by omega) HO.out hown6 hgrow6 HBE.out hbs (Nat.le_refl _)
          have HO6 := hide hO6
          have HB6 := hide hB6
          clear hown6 hgrow6 hO6 hB6
          go_wp2
          go_roundw
          case rel => exact ⟨k + 1, i + 2, by have := HIK.out; show i + 2 = 2 * (k + 1); omega, by omega, by go_num, by rw [jnd_succ, ← HIK.out]; exact HO6.out, HB6.out⟩
          case measure => simp [intOf]; omega
      · have HZ := hide (lm_over ds (i + 1) (by omega))
        clear hc HNr
        go_wp2_with (at_builtin; refine wpList_append_own _ rfl _ _ 22 rfl (w.heap.size + 1) 32 i0 (.int .u32 0) 1 4 Tryd.underlying22 hi hz0 hz1 hz2 rfl (by decide) _ _ _ rfl (World.ownsRow.alloc HO.out _) ⟨_, 0, none⟩ 1 1 [.int .u32 (((lm ds i : Int)))] rfl rfl ?_ ?_ ?_ ?_ ?_ ?_)
        · intro i u hi'
          match i, hi' with
          | 0, hi' => simp at hi'; subst hi'; simp [Addr.add]
        · intro u hu; simp at hu; subst hu; rfl
        · unfold maxLen; omega
        · omega
        · simp; omega
        · intro v6 w6 hown6 hgrow6 _
          obtain ⟨hO6, hB6⟩ := own_step (n := lm ds i) rfl HO.out hown6 hgrow6 HBE.out hbs (Nat.le_refl _)
          have HO6 := hide hO6
          have HB6 := hide hB6
          clear hown6 hgrow6 hO6 hB6
          go_wp2
          go_roundw
          case rel => exact ⟨k + 1, i + 2, by have := HIK.out; show i + 2 = 2 * (k + 1); omega, by omega, by go_num, by rw [jnd_succ, ← HIK.out, HZ.out, Nat.mul_zero, Nat.add_zero]; exact HO6.out, HB6.out⟩
          case measure => simp [intOf]; omega
    · go_wp2
      go_ret
      refine ⟨_, rfl, ?_, (below_alloc w _).trans (HBE.out.mono (Nat.le_succ _))⟩
      have e := HIK.out
      rw [← HJ.out k (by omega) (by omega)]
      exact HO.out.nums (jnd_ok HOK.out _)
end Go.Proofs.YtmibgcpafccliaaDoor

namespace Go.Proofs.YtmibgcpafccliaaDoor
open Go.RowKit

set_option maxRecDepth 100000 in
set_option maxHeartbeats 1000000 in
theorem ilimbs_any (v : Value) (z : Int) (w : World) (h : IntAt w v z) (hl : (lim z.natAbs).length ≤ 1000000000) :
    Calls Tryd.prog 64 #[v] w fun e w' => ∃ l, e = .returned (.tuple #[.bool (decide (z < 0)), l]) ∧ Nums w' l (lim z.natAbs) ∧ Below w.heap.size w w' := by
  obtain ⟨b, n, a, c, rfl, hn, rfl, h0⟩ := h
  have hb : decide (sg b n < 0) = b := by
    cases b with
    | true => have : n ≠ 0 := fun e => absurd (h0 e) (by decide)
              rw [sg_true, decide_eq_true (by omega)]
    | false => rw [sg_false, decide_eq_false (by omega)]
  rw [sg_abs] at hl ⊢
  rw [hb]
  have HE := hide (boxes1 w (.bool b) (.slice a (lim n).length c))
  have HN := hide (hn.below HE.out.2)
  clear hn h0 hb
  go_enter Tryd.func64, Tryd.ntmps64
  go_wp2_with fail
  refine wp_calm (fun w' => Below w.heap.size w w' ∧ Box w' w.heap.size (.bool b) (.slice a (lim n).length c)) (fun _ => true) 7 #[false, false, false, false, false, false, false] (by kernel_rfl) rfl rfl ?_
  have HF := hide (And.intro HE.out.2.drew HE.out.1.drew)
  refine Calm.take (i := 0) (v := ?_) (a' := ?_) (l' := #[true, false, false, false, false, false, false]) (d := some 4) rfl (by kernel_rfl) (by kernel_rfl) (by kernel_rfl) (by kernel_rfl) (fun _ _ _ h => h) HF.out rfl ?_ rfl rfl ?_ ?_
  rotate_left
  · intro w' hF; clear hF; go_simp; try rfl
  rotate_left
  · simp only [Act.put]; exact rfl
  refine Calm.take (i := 1) (v := ?_) (a' := ?_) (l' := #[true, true, false, false, false, false, false]) (d := some 5) rfl (by kernel_rfl) (by kernel_rfl) (by kernel_rfl) (by kernel_rfl) (fun _ _ _ h => h) HF.out rfl ?_ rfl rfl ?_ ?_
  rotate_left
  · intro w' hF; have f10 := hF.2.cell0; have f11 := hF.2.cell1; clear hF; go_simp; try rfl
  rotate_left
  · simp only [Act.put]; exact rfl
  refine Calm.take (i := 2) (v := ?_) (a' := ?_) (l' := #[true, true, true, false, false, false, false]) (d := some 6) rfl (by kernel_rfl) (by kernel_rfl) (by kernel_rfl) (by kernel_rfl) (fun _ _ _ h => h) HF.out rfl ?_ rfl rfl ?_ ?_
  rotate_left
  · intro w' hF; clear hF; go_simp; try rfl
  rotate_left
  · simp only [Act.put]; exact rfl
  refine Calm.take (i := 3) (v := ?_) (a' := ?_) (l' := #[true, true, true, true, false, false, false]) (d := some 7) rfl (by kernel_rfl) (by kernel_rfl) (by kernel_rfl) (by kernel_rfl) (fun _ _ _ h => h) HF.out rfl ?_ rfl rfl ?_ ?_
  rotate_left
  · intro w' hF; have f10 := hF.2.cell0; have f11 := hF.2.cell1; clear hF; go_simp; try rfl
  rotate_left
  · simp only [Act.put]; exact rfl
  refine Calm.one (i := 4) (l' := #[true, true, true, true, true, false, false]) (by kernel_rfl) rfl rfl rfl fun K hK => ?_
  go_simp
  refine (norm_any _ (lim n) _ HN.out.drew hl).mono ?_
  rintro e u0 ⟨l, rfl, _, n, hb⟩
  rw [val_lim] at n
  try replace BX := hide (BX.out.step hb)
  have T1 := hide n
  clear n
  have HF' := hide (And.intro (HF.out.1.trans ((hb).mono HF.out.1.size)) (HF.out.2.step (hb)))
  refine hK _ _ (fun _ => HF'.out) ?_
  clear hK K HF hb
  have HF := hide HF'.out
  clear HF'
  refine Calm.take (i := 5) (v := ?_) (a' := ?_) (l' := #[true, true, true, true, true, true, false]) (d := some 2) rfl (by kernel_rfl) (by kernel_rfl) (by kernel_rfl) (by kernel_rfl) (fun _ _ _ h => h) HF.out rfl ?_ rfl rfl ?_ ?_
  rotate_left
  · intro w' hF; clear hF; go_simp; try rfl
  rotate_left
  · simp only [Act.put]; exact rfl
  refine Calm.take (i := 6) (v := ?_) (a' := ?_) (l' := #[true, true, true, true, true, true, true]) (d := some 3) rfl (by kernel_rfl) (by kernel_rfl) (by kernel_rfl) (by kernel_rfl) (fun _ _ _ h => h) HF.out rfl ?_ rfl rfl ?_ ?_
  rotate_left
  · intro w' hF; clear hF; go_simp; try rfl
  rotate_left
  · simp only [Act.put]; exact rfl
  refine Calm.done (by kernel_rfl) ?_
  go_wp2
  go_ret2
  exact ⟨l, rfl, T1.out, HF.out.1⟩

end Go.Proofs.YtmibgcpafccliaaDoor

namespace Go.Proofs.YtmibgcpafccliaaDoor
open Go.RowKit

set_option maxRecDepth 100000 in
set_option maxHeartbeats 1000000 in
theorem is_yes (v u : Value) (z : Int) (w : World) (h : IntAt w v z) (k : RInt w u z) (hl : (lim z.natAbs).length ≤ 1000000000) (hr : (D.lim z.natAbs).length ≤ 1000000000) :
    Calls Tryd.prog 35 #[v, u] w fun e w' => e = .returned (.bool true) ∧ Below w.heap.size w w' := by
  have I1 := hide h
  have I2 := hide k
  obtain ⟨b, n, a, c, rfl, hn, e1, h0⟩ := h
  obtain ⟨b', n', a', c', rfl, hn', e2, h0'⟩ := k
  have hbz : decide (z < 0) = b' := by
    subst e2
    cases b' with
    | true => have : n' ≠ 0 := fun e => absurd (h0' e) (by decide)
              rw [sg_true, decide_eq_true (by omega)]
    | false => rw [sg_false, decide_eq_false (by omega)]
  have HBX : Hid (Box ((w.alloc (.cells #[.bool b, .slice a (lim n).length c] 44)).alloc (.cells #[.bool b', .slice a' (D.lim n').length c'] 46)) w.heap.size (.bool b) (.slice a (lim n).length c)) := hide ((Box.new w _ _).step (below_alloc _ _))
  have HRX : Hid (Box2 ((w.alloc (.cells #[.bool b, .slice a (lim n).length c] 44)).alloc (.cells #[.bool b', .slice a' (D.lim n').length c'] 46)) (w.heap.size + 1) 46 (.bool b') (.slice a' (D.lim n').length c')) := hide (by have := Box2.new (w.alloc (.cells #[.bool b, .slice a (lim n).length c] 44)) 46 (.bool b') (.slice a' (D.lim n').length c'); rwa [World.size_alloc] at this)
  have HB : Hid (Below w.heap.size w ((w.alloc (.cells #[.bool b, .slice a (lim n).length c] 44)).alloc (.cells #[.bool b', .slice a' (D.lim n').length c'] 46))) := hide ((below_alloc _ _).trans ((below_alloc _ _).mono (by simp)))
  replace I1 := hide (I1.out.below HB.out)
  replace I2 := hide (I2.out.below HB.out)
  clear hn hn' h0 h0' e1 e2
  go_enter Tryd.func35, Tryd.ntmps35
  go_wp2_with fail
  refine (ilimbs_any _ z _ I1.out hl).mono ?_
  rintro e w1 ⟨l1, rfl, n1, hb1⟩
  rw [hbz]
  replace HRX := hide (HRX.out.step hb1)
  replace HB := hide (HB.out.trans (hb1.mono HB.out.size))
  replace I2 := hide (I2.out.below hb1)
  have hr0 := HRX.out.cell0
  have hr1 := HRX.out.cell1
  have HN1 := hide n1
  clear hb1 n1 HBX I1
  go_wp2_with fail
  refine (rlimbs_any _ z _ I2.out hr).mono ?_
  rintro e w2 ⟨l2, rfl, n2, hb2⟩
  replace HRX := hide (HRX.out.step hb2)
  replace HB := hide (HB.out.trans (hb2.mono HB.out.size))
  replace HN1 := hide (HN1.out.below hb2)
  have HN2 := hide n2
  clear hr0 hr1 hb2 n2 I2
  have hr0 := HRX.out.cell0
  generalize lim z.natAbs = L at *
  obtain ⟨_, a1, c1, rfl, _, hm1, hcc1⟩ := HN1.out
  obtain ⟨_, a2, c2, rfl, _, hm2, hcc2⟩ := HN2.out
  have HC1 := hide hcc1
  have HC2 := hide hcc2
  clear hcc1 hcc2
  unfold maxLen at hm1 hm2
  cases b'
  all_goals
    go_wp2
    go_loopw [8] (fun iv wr => ∃ k : Nat, k ≤ L.length ∧ iv = .int .i64 k ∧ ∃ q, wr = w2.drewN q) (fun iv _ => L.length - (intOf iv).toNat)
    case atStart => exact ⟨0, Nat.zero_le _, rfl, 0, rfl⟩
    case round =>
      obtain ⟨k, hk, rfl, q, rfl⟩ := hrel
      by_cases hlt : k < L.length
      · obtain ⟨B1, o1, rfl, hx1⟩ := HC1.out (ne_nil hlt)
        obtain ⟨B2, o2, rfl, hx2⟩ := HC2.out (ne_nil hlt)
        have k1 := hx1 k hlt
        have k2 := hx2 k hlt
        clear hx1 hx2
        have hxk : lm L k < 4294967296 := HN1.out.ok.at k
        have hltI : (k : Int) < (L.length : Int) := by omega
        go_wp2
        go_quiet (fail)
        go_wp2
        go_roundw
        case rel => exact ⟨k + 1, by omega, by go_num, _, rfl⟩
        case measure => simp [intOf]; omega
      · go_wp2
        go_ret
        exact ⟨rfl, below_drewN HB.out _⟩
end Go.Proofs.YtmibgcpafccliaaDoor
