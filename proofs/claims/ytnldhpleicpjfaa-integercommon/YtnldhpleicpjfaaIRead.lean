/- integer.Read: the number of a text, or what is wrong with it. -/
import Derived.Test.YtnldhpleicpjfaaTimes
import Derived.Test.YtnldhpleicpjfaaLaw
import Derived.Test.YtnldhpleicpjfaaNum
import Derived.Test.YtnldhpleicpjfaaBox
import Derived.Test.YtnldhpleicpjfaaCalm3
namespace Go.Proofs.Ytnldhpleicpjfaa
open Go.RowKit

/-- a text's byte -/
def bt (s : ByteArray) (i : Nat) : Nat := if h : i < s.size then s[i].toNat else 0
theorem bt_get (s : ByteArray) (i : Nat) (h : i < s.size) : s[i].toNat = bt s i := by unfold bt; rw [dif_pos h]
/-- nothing wrong at this place -/
structure Fine (s : ByteArray) (i : Nat) : Prop where
  lo : 48 ≤ bt s i
  hi : bt s i ≤ 57
  lead : 1 ≤ i → bt s 0 ≠ 48
/-- nothing wrong up to this place -/
def Good (s : ByteArray) (i : Nat) : Prop := ∀ j, j < i → Fine s j
theorem Good.zero (s : ByteArray) : Good s 0 := fun j h => absurd h (by omega)
theorem Good.succ {s : ByteArray} {i : Nat} (h : Good s i) (f : Fine s i) : Good s (i + 1) := by
  intro j hj
  rcases Nat.lt_succ_iff_lt_or_eq.1 hj with h1 | rfl
  · exact h j h1
  · exact f
theorem Good.only {s : ByteArray} {i j : Nat} (h : Good s i) (b : ¬ Fine s i) (h' : Good s j) (b' : ¬ Fine s j) : i = j := by
  rcases Nat.lt_trichotomy i j with l | e | l
  · exact absurd (h' i l) b
  · exact e
  · exact absurd (h j l) b'

set_option maxRecDepth 100000 in
set_option maxHeartbeats 1000000 in
theorem fault_any (s : ByteArray) (w : World) (hs : s.size ≤ 65536) :
    Calls Try.prog 92 #[.string s] w fun e w' => w' = w ∧
      ((∃ i, i < s.size ∧ Good s i ∧ ¬ Fine s i ∧ e = .returned (.tuple #[.int .i64 (i : Nat), .bool false])) ∨
       (Good s s.size ∧ e = .returned (.tuple #[.int .i64 0, .bool (decide (0 < s.size))]))) := by
  go_enter Try.func92, Try.ntmps92
  go_wp2
  go_loopw [7] (fun iv wr => ∃ k : Nat, k ≤ s.size ∧ iv = .int .i64 k ∧ Good s k ∧ wr = w) (fun iv _ => s.size - (intOf iv).toNat)
  case atStart => exact ⟨0, Nat.zero_le _, rfl, Good.zero s, rfl⟩
  case round =>
    obtain ⟨k, hk, rfl, hg, rfl⟩ := hrel
    have HG := hide hg
    clear hg
    by_cases hlt : k < s.size
    · have h0 : 0 < s.size := by omega
      have hb := bt_get s k hlt
      have hb0 := bt_get s 0 h0
      by_cases c1 : bt s k < 48
      · go_wp2
        go_ret2
        exact ⟨rfl, .inl ⟨k, hlt, HG.out, fun f => by have := f.lo; omega, rfl⟩⟩
      · by_cases c2 : 57 < bt s k
        · go_wp2
          go_ret2
          exact ⟨rfl, .inl ⟨k, hlt, HG.out, fun f => by have := f.hi; omega, rfl⟩⟩
        · by_cases c3 : k = 1
          · subst c3
            by_cases c4 : bt s 0 = 48
            · go_wp2
              go_ret2
              exact ⟨rfl, .inl ⟨1, hlt, HG.out, fun f => f.lead (Nat.le_refl _) c4, rfl⟩⟩
            · have HF := hide (show Fine s 1 from ⟨by omega, by omega, fun _ => c4⟩)
              have c4b : (((bt s 0 : Nat) : Int) == 48) = false := by simp; omega
              clear c4
              go_wp2
              go_roundw
              case rel => exact ⟨2, by omega, rfl, HG.out.succ HF.out, trivial⟩
              case measure => simp [intOf]; omega
          · have HF := hide (show Fine s k from ⟨by omega, by omega, fun h1 => (HG.out 1 (by omega)).lead (Nat.le_refl _)⟩)
            go_wp2
            go_roundw
            case rel => exact ⟨k + 1, by omega, by go_num, HG.out.succ HF.out, trivial⟩
            case measure => simp [intOf]; omega
    · have e : k = s.size := by omega
      subst e
      go_wp2
      go_ret2
      exact ⟨rfl, .inr ⟨HG.out, by simp⟩⟩
end Go.Proofs.Ytnldhpleicpjfaa

namespace Go.Proofs.Ytnldhpleicpjfaa

def UU : Nat := 1000000000

/-- the k + 1 low digits, the high one first -/
def digs : Nat → Nat → List Nat
  | 0, g => [g % 10]
  | k + 1, g => (g / 10 ^ (k + 1) % 10) :: digs k g

def ndF : Nat → Nat → Nat
  | 0, _ => 0
  | f + 1, n => if n < 10 then 0 else ndF f (n / 10) + 1

/-- how many digits stand behind the first one -/
def nd (n : Nat) : Nat := ndF n n

/-- a number's digits -/
def dec (n : Nat) : List Nat := digs (nd n) n

theorem pow_succ10 (k : Nat) : 10 ^ (k + 1) = 10 * 10 ^ k := by rw [Nat.pow_succ, Nat.mul_comm]
theorem pow_pos10 (k : Nat) : 0 < 10 ^ k := Nat.pow_pos (by decide)

theorem ndF_spec : ∀ f n, n ≤ f → n < 10 ^ (ndF f n + 1) ∧ (ndF f n = 0 ∨ 10 ^ ndF f n ≤ n) := by
  intro f
  induction f with
  | zero => intro n h; have : n = 0 := by omega
            subst this; simp [ndF]
  | succ f ih =>
    intro n h
    unfold ndF
    by_cases h1 : n < 10
    · rw [if_pos h1]; simp; exact h1
    · rw [if_neg h1]
      have hd : n / 10 ≤ f := by omega
      obtain ⟨h2, h3⟩ := ih (n / 10) hd
      refine ⟨?_, .inr ?_⟩
      · rw [pow_succ10]; omega
      · rw [pow_succ10]
        rcases h3 with h3 | h3
        · rw [h3]; simp; omega
        · omega

theorem nd_spec (n : Nat) : n < 10 ^ (nd n + 1) ∧ (nd n = 0 ∨ 10 ^ nd n ≤ n) := ndF_spec n n (Nat.le_refl _)

theorem nd_unique {n k : Nat} (h1 : n < 10 ^ (k + 1)) (h2 : k = 0 ∨ 10 ^ k ≤ n) : nd n = k := by
  obtain ⟨a, b⟩ := nd_spec n
  have mono : ∀ i j : Nat, i ≤ j → 10 ^ i ≤ 10 ^ j := fun i j h => Nat.pow_le_pow_right (by decide) h
  by_cases hlt : nd n < k
  · have := mono (nd n + 1) k hlt
    rcases h2 with h2 | h2 <;> omega
  · by_cases hgt : k < nd n
    · have := mono (k + 1) (nd n) hgt
      rcases b with b | b <;> omega
    · omega

theorem digs_mod (k m n : Nat) (h : k < m) : digs k (n % 10 ^ m) = digs k n := by
  induction k with
  | zero =>
    simp only [digs]
    obtain ⟨j, rfl⟩ : ∃ j, m = j + 1 := ⟨m - 1, by omega⟩
    rw [pow_succ10, Nat.mod_mul_right_mod]
  | succ k ih =>
    simp only [digs]
    rw [ih (by omega)]
    congr 1
    obtain ⟨j, rfl⟩ : ∃ j, m = (k + 1) + (j + 1) := ⟨m - (k + 1) - 1, by omega⟩
    rw [Nat.pow_add, Nat.mod_mul_right_div_self, pow_succ10 j, Nat.mod_mul_right_mod]

theorem digs_split (k n : Nat) : digs (k + 9) n = digs k (n / UU) ++ digs 8 (n % UU) := by
  have hU : UU = 10 ^ 9 := by decide
  induction k with
  | zero =>
    show digs 9 n = _
    rw [show digs 9 n = (n / 10 ^ 9 % 10) :: digs 8 n from rfl, hU, digs_mod 8 9 n (by decide)]
    rfl
  | succ k ih =>
    rw [show k + 1 + 9 = (k + 9) + 1 from by omega]
    rw [show digs (k + 9 + 1) n = (n / 10 ^ (k + 9 + 1) % 10) :: digs (k + 9) n from rfl, show digs (k + 1) (n / UU) = (n / UU / 10 ^ (k + 1) % 10) :: digs k (n / UU) from rfl]
    rw [ih, List.cons_append]
    congr 2
    rw [hU, Nat.div_div_eq_div_mul, ← Nat.pow_add]
    congr 2; omega

def grpF : Nat → Nat → List Nat
  | 0, n => [n]
  | f + 1, n => if n < UU then [n] else (n % UU) :: grpF f (n / UU)

/-- a number's groups, the low one first -/
def grp (n : Nat) : List Nat := grpF n n

theorem grpF_enough : ∀ f g n, n ≤ f → n ≤ g → grpF f n = grpF g n := by
  intro f
  induction f with
  | zero => intro g n h1 h2; have : n = 0 := by omega
            subst this; cases g <;> simp [grpF, UU]
  | succ f ih =>
    intro g n h1 h2
    by_cases h : n < UU
    · cases g <;> simp [grpF, h]
    · cases g with
      | zero => unfold UU at h; omega
      | succ g =>
        simp only [grpF, h, if_false]
        have hd : n / UU < n := Nat.div_lt_self (by unfold UU at h; omega) (by decide)
        rw [ih g (n / UU) (by omega) (by omega)]

theorem grp_low {n : Nat} (h : n < UU) : grp n = [n] := by
  unfold grp; cases n <;> simp [grpF]; intro h'; omega
theorem grp_high {n : Nat} (h : ¬ n < UU) : grp n = (n % UU) :: grp (n / UU) := by
  have hd : n / UU < n := Nat.div_lt_self (by unfold UU at h; omega) (by decide)
  unfold grp
  cases n with
  | zero => unfold UU at h; omega
  | succ m =>
    simp only [grpF, h, if_false]
    rw [grpF_enough m ((m + 1) / UU) ((m + 1) / UU) (by omega) (Nat.le_refl _)]

/-- the groups behind the first one, of what is left -/
def grpR (n : Nat) : List Nat := if n = 0 then [] else grp n
theorem grp_eq (n : Nat) : grp n = (n % UU) :: grpR (n / UU) := by
  unfold grpR
  by_cases h : n < UU
  · rw [grp_low h, Nat.mod_eq_of_lt h, Nat.div_eq_of_lt h]; rfl
  · rw [grp_high h, if_neg]
    have := Nat.div_pos (Nat.le_of_not_lt h) (show 0 < UU by decide)
    omega
theorem grpR_pos {n : Nat} (h : 0 < n) : grpR n = (n % UU) :: grpR (n / UU) := by
  rw [← grp_eq]; unfold grpR; rw [if_neg (by omega)]
theorem grpR_zero : grpR 0 = [] := rfl

theorem grp_lt (n : Nat) : ∀ x ∈ grp n, x < UU := by
  refine Nat.strongRecOn n (fun n ih => ?_)
  by_cases h : n < UU
  · rw [grp_low h]; intro x hx; simp at hx; omega
  · rw [grp_high h]; intro x hx
    rcases List.mem_cons.1 hx with rfl | hx
    · exact Nat.mod_lt _ (by decide)
    · exact ih (n / UU) (Nat.div_lt_self (by unfold UU at h; omega) (by decide)) x hx
theorem grp_ne (n : Nat) : grp n ≠ [] := by rw [grp_eq]; simp

/-- what is told of groups: the last one without noughts ahead, the others nine digits each -/
def told : List Nat → List Nat
  | [] => []
  | [t] => digs (nd t) t
  | g :: h :: gs => told (h :: gs) ++ digs 8 g

theorem nd_high {n : Nat} (h : ¬ n < UU) : nd n = nd (n / UU) + 9 := by
  have hU : UU = 10 ^ 9 := by decide
  obtain ⟨a, b⟩ := nd_spec (n / UU)
  refine nd_unique ?_ (.inr ?_)
  · rw [Nat.div_lt_iff_lt_mul (by decide), hU, ← Nat.pow_add] at a
    rw [show nd (n / UU) + 9 + 1 = nd (n / UU) + 1 + 9 from by omega]; exact a
  · rcases b with b | b
    · rw [b]; show 10 ^ 9 ≤ n; rw [← hU]; omega
    · rw [Nat.le_div_iff_mul_le (by decide), hU, ← Nat.pow_add] at b; exact b

theorem told_grp (n : Nat) : told (grp n) = dec n := by
  refine Nat.strongRecOn n (fun n ih => ?_)
  by_cases h : n < UU
  · rw [grp_low h]; rfl
  · have := ih (n / UU) (Nat.div_lt_self (by unfold UU at h; omega) (by decide))
    rw [grp_high h]
    have e : told (n % UU :: grp (n / UU)) = told (grp (n / UU)) ++ digs 8 (n % UU) := by
      cases hg : grp (n / UU) with
      | nil => exact absurd hg (grp_ne _)
      | cons a b => rfl
    rw [e, this]
    unfold dec
    rw [nd_high h, digs_split]

end Go.Proofs.Ytnldhpleicpjfaa

namespace Go.Proofs.Ytnldhpleicpjfaa
open Go.RowKit

/-- the number that the first k bytes say -/
def nv (s : ByteArray) : Nat → Nat
  | 0 => 0
  | k + 1 => nv s k * 10 + (bt s k - 48)

/-- what a text reads as -/
def Rd (s : ByteArray) (xs : List Nat) (a b : Nat) : Prop :=
  (65536 < s.size ∧ xs = [] ∧ a = 3 ∧ b = 65536) ∨ (s.size = 0 ∧ xs = [] ∧ a = 6 ∧ b = 0) ∨
  (s.size ≤ 65536 ∧ ∃ i, i < s.size ∧ Good s i ∧ ¬ Fine s i ∧ xs = [] ∧ a = 6 ∧ b = i) ∨
  (s.size ≤ 65536 ∧ 0 < s.size ∧ Good s s.size ∧ xs = lim (nv s s.size) ∧ a = 0 ∧ b = 0)
theorem Rd.same {s : ByteArray} {xs ys : List Nat} {a b c d : Nat} (h : Rd s xs a b) (k : Rd s ys c d) : xs = ys ∧ a = c ∧ b = d := by
  rcases h with ⟨h1, rfl, rfl, rfl⟩ | ⟨h1, rfl, rfl, rfl⟩ | ⟨h1, i, hi, hg, hb, rfl, rfl, rfl⟩ | ⟨h1, h2, hg, rfl, rfl, rfl⟩ <;>
  rcases k with ⟨k1, rfl, rfl, rfl⟩ | ⟨k1, rfl, rfl, rfl⟩ | ⟨k1, j, kj, kg, kb, rfl, rfl, rfl⟩ | ⟨k1, k2, kg, rfl, rfl, rfl⟩ <;>
  first | omega | exact ⟨rfl, rfl, rfl⟩ | exact ⟨rfl, rfl, hg.only hb kg kb⟩ | exact absurd (hg _ kj) kb | exact absurd (kg _ hi) hb

theorem nv_lt (s : ByteArray) (k : Nat) (h : Good s k) : nv s k < 10 ^ k := by
  induction k with
  | zero => simp [nv]
  | succ k ih =>
    have h1 := ih fun j hj => h j (by omega)
    have h2 := h k (by omega)
    have h3 := h2.lo
    have h4 := h2.hi
    simp only [nv]
    rw [pow_succ10]
    omega
theorem nv_len (s : ByteArray) (k n : Nat) (h : Good s k) (hn : n ≤ nv s k) : (lim n).length ≤ k :=
  lim_length_le (Nat.lt_of_le_of_lt hn (Nat.lt_of_lt_of_le (nv_lt s k h) (Nat.pow_le_pow_left (by decide) _)))

/-- how many digits of a group have come, with r to go in all -/
def ge (r : Nat) : Nat := (9 - r % 9) % 9
/-- a text's state at the place k: so far N groups, and g -/
structure ReadAt (s : ByteArray) (k N g : Nat) : Prop where
  sum : nv s k = N * 10 ^ ge (s.size - k) + g
  lt : g < 10 ^ ge (s.size - k)
theorem ReadAt.start (s : ByteArray) : ReadAt s 0 0 0 := ⟨by simp [nv], Nat.pow_pos (by decide)⟩
theorem ge_le (r : Nat) : ge r ≤ 8 := by unfold ge; omega
theorem ReadAt.small {s : ByteArray} {k N g : Nat} (h : ReadAt s k N g) : g < 100000000 :=
  Nat.lt_of_lt_of_le h.lt (Nat.le_trans (Nat.pow_le_pow_right (by decide) (ge_le _)) (by decide))
theorem ReadAt.go {s : ByteArray} {k N g d : Nat} (h : ReadAt s k N g) (hk : k < s.size) (hd : bt s k = 48 + d) (h9 : d ≤ 9) (hm : (s.size - 1 - k) % 9 ≠ 0) : ReadAt s (k + 1) N (g * 10 + d) := by
  have e : ge (s.size - (k + 1)) = ge (s.size - k) + 1 := by unfold ge; omega
  have h1 := h.sum
  have h2 := h.lt
  refine ⟨?_, ?_⟩
  · rw [e, pow_succ10]; simp only [nv]; rw [h1, hd]
    generalize 10 ^ ge (s.size - k) = p
    rw [Nat.add_mul, Nat.mul_assoc, Nat.mul_comm p 10]; omega
  · rw [e, pow_succ10]; omega
theorem ReadAt.take {s : ByteArray} {k N g d : Nat} (h : ReadAt s k N g) (hk : k < s.size) (hd : bt s k = 48 + d) (h9 : d ≤ 9) (hm : (s.size - 1 - k) % 9 = 0) : ReadAt s (k + 1) (1000000000 * N + (g * 10 + d)) 0 := by
  have e : ge (s.size - k) = 8 := by unfold ge; omega
  have e' : ge (s.size - (k + 1)) = 0 := by unfold ge; omega
  have h1 := h.sum
  refine ⟨?_, by rw [e']; decide⟩
  rw [e'] ; simp only [nv]; rw [h1, hd, e]
  omega
theorem ReadAt.end {s : ByteArray} {N g : Nat} (h : ReadAt s s.size N g) : N = nv s s.size := by
  have h1 := h.sum
  have h2 := h.lt
  have e : ge (s.size - s.size) = 0 := by unfold ge; omega
  rw [e] at h1 h2
  omega
theorem ReadAt.le {s : ByteArray} {k N g : Nat} (h : ReadAt s k N g) : N ≤ nv s k := by
  rw [h.sum]
  exact Nat.le_trans (Nat.le_mul_of_pos_right N (Nat.pow_pos (by decide))) (Nat.le_add_right _ _)

theorem Own.set2 {w : World} {B base : Nat} {v : Value} {xs : List Nat} (h : Own w base v xs) (hB : B < base) (a b : Value) : Own ((w.setCell ⟨B, 0, none⟩ a).setCell ⟨B, 1, none⟩ b) base v xs :=
  World.ownsRow.kept h (gb_set (gb_set (World.grownBy.refl _ _) 0 a) 1 b) (.inr (fun e => by have := (World.ownsRow.lt h B e).1; omega))

theorem Try.infoSpot : (Try.prog.info? 61).map (·.size) = some 2 := by kernel_rfl
theorem ret_spot {fn : Func} {R : Ending → World → Prop} {a : Act} {w : World} {u p : Tmp} (h : fn.results = #[.tmp u, .cell p 61]) (g : Nat) (x y : Value) (t : TypeId) (fr : Nat × Nat)
    (hp : a.tmps.getD p undef = .pointer (some ⟨g, 0, none⟩)) (hg : w.heap[g]? = some (.cells #[x, y] t fr)) (hd : a.defers = []) (hR : R (.returned (.tuple #[a.tmps.getD u undef, .agg #[x, y]])) w) : bodyPost Try.prog fn R .ret a w := by
  refine bodyPost_ret ?_ hd hR
  have hp' : a.tmps[p]?.getD undef = .pointer (some ⟨g, 0, none⟩) := by simpa using hp
  simp [results, h, hp', asAddr, run_loadVar_row w g t 61 #[x, y] fr _ hg Try.underlying61 rfl Try.infoSpot]

set_option maxRecDepth 100000 in
set_option maxHeartbeats 1000000 in
theorem read_any (s : ByteArray) (w : World) (hw : s.size ≤ 9223372036854775807) :
    Calls Try.prog 79 #[.string s] w fun e w' => ∃ v xs a b, e = .returned (.tuple #[v, .agg #[.int .i64 (a : Nat), .int .i64 (b : Nat)]]) ∧ Nums w' v xs ∧ Rd s xs a b ∧ Below w.heap.size w w' := by
  go_enter Try.func79, Try.ntmps79
  by_cases hb : 65536 < s.size
  · go_wp2
    refine ret_spot rfl w.heap.size _ _ _ _ rfl (heap_alloc_new _ _) rfl ?_
    exact ⟨_, [], 3, 65536, rfl, Nums.nil_mk _ _ _ (Nat.zero_le _), .inl ⟨hb, rfl, rfl, rfl⟩, below_alloc _ _⟩
  · have hs : s.size ≤ 65536 := by omega
    clear hb hw
    go_wp2_with fail
    refine (fault_any s _ hs).mono ?_
    rintro e w1 ⟨rfl, ⟨i, hi, hg, hbad, rfl⟩ | ⟨hg, rfl⟩⟩
    · have HG := hide hg
      have HB := hide hbad
      clear hg hbad
      go_wp2
      refine ret_spot rfl w.heap.size _ _ _ _ rfl (heap_alloc_new _ _) rfl ?_
      exact ⟨_, [], 6, i, rfl, Nums.nil_mk _ _ _ (Nat.zero_le _), .inr (.inr (.inl ⟨hs, i, hi, HG.out, HB.out, rfl, rfl, rfl⟩)), below_alloc _ _⟩
    · by_cases h0 : s.size = 0
      · clear hg
        rw [h0]
        go_wp2
        refine ret_spot rfl w.heap.size _ _ _ _ rfl (heap_alloc_new _ _) rfl ?_
        exact ⟨_, [], 6, 0, rfl, Nums.nil_mk _ _ _ (Nat.zero_le _), .inr (.inl ⟨h0, rfl, rfl, rfl⟩), below_alloc _ _⟩
      · have HG := hide hg
        have hp : 0 < s.size := by omega
        clear hg h0
        go_wp2
        go_loopw [6, 7, 24] (fun nv' gv iv wr => ∃ k N g : Nat, k ≤ s.size ∧ iv = .int .i64 k ∧ gv = .int .u32 g ∧ ReadAt s k N g ∧ Own wr (w.heap.size + 1) nv' (lim N) ∧ Below (w.heap.size + 1) (w.alloc (.cells #[.int .i64 0, .int .i64 0] 61)) wr) (fun _ _ iv _ => s.size - (intOf iv).toNat)
        case atStart => exact ⟨0, 0, 0, Nat.zero_le _, rfl, rfl, ReadAt.start s, by rw [lim_zero]; exact World.ownsRow_nil _ _ _ _, Below.refl _ _⟩
        case round =>
          obtain ⟨k, N, g, hk, rfl, rfl, hat, hO, hbel⟩ := hrel
          have HAT := hide hat
          have HOW := hide hO
          have HBE := hide hbel
          clear hat hO hbel
          by_cases hlt : k < s.size
          · have hb := bt_get s k hlt
            have hf := HG.out k hlt
            obtain ⟨d, hd⟩ : ∃ d, bt s k = 48 + d := ⟨bt s k - 48, by have := hf.lo; omega⟩
            have h9 : d ≤ 9 := by have := hf.hi; omega
            rw [hd] at hb
            have HD := hide hd
            have hgs := HAT.out.small
            clear hf hd
            by_cases hm : (s.size - 1 - k) % 9 = 0
            · have hmI : ((s.size : Int) - 1 - (k : Int)) % 9 = 0 := by omega
              have HM := hide hm
              clear hm
              have hlen := nv_len s k N (fun j hj => HG.out j (by omega)) HAT.out.le
              go_wp2_with fail
              have hT := fun v W h1 h2 => timesAnd_any v (lim N) 1000000000 (g * 10 + d) (w.heap.size + 1) W h1 (ok_lim _) (by decide) (by omega) (by omega) h2
              rw [show ((1000000000 : Nat) : Int) = 1000000000 from rfl, show ((g * 10 + d : Nat) : Int) = (g : Int) * 10 + (d : Int) from by omega] at hT
              rw [show (48 + (d : Int) - 48) = (d : Int) from by omega]
              refine (hT _ _ HOW.out (by have := HBE.out.size; simpa using this)).mono ?_
              rintro e w2 ⟨v', rfl, hO2, hb2⟩
              rw [val_lim] at hO2
              have HO2 := hide hO2
              have HB2 := hide (HBE.out.trans hb2)
              clear hO2 hb2
              go_wp2
              go_roundw
              case rel => exact ⟨k + 1, _, 0, by omega, by go_num, rfl, HAT.out.take hlt HD.out h9 HM.out, HO2.out, HB2.out⟩
              case measure => simp [intOf]; omega
            · have hmI : (((s.size : Int) - 1 - (k : Int)) % 9 == 0) = false := by simp; omega
              have HM := hide hm
              clear hm
              go_wp2
              go_roundw
              case rel => exact ⟨k + 1, N, g * 10 + d, by omega, by go_num, by go_num, HAT.out.go hlt HD.out h9 HM.out, HOW.out, HBE.out⟩
              case measure => simp [intOf]; omega
          · have e : k = s.size := by omega
            subst e
            have HX := hide ((Box2.new w _ _ _).below HBE.out (Nat.lt_succ_self _))
            have hc0 := HX.out.cell0
            have hc1 := HX.out.cell1
            have hf0 := HX.out.free 0
            have hf1 := HX.out.free 1
            go_wp2
            refine ret_spot rfl w.heap.size _ _ _ _ rfl ((HX.out.set0 _).set1 _) rfl ?_
            exact ⟨_, _, 0, 0, rfl, (HOW.out.set2 (Nat.lt_succ_self _) _ _).nums (ok_lim _), .inr (.inr (.inr ⟨hs, hp, HG.out, by rw [HAT.out.end], rfl, rfl⟩)), (((below_alloc w _).trans (HBE.out.mono (Nat.le_succ _))).setCell (p := ⟨w.heap.size, 0, none⟩) (Nat.le_refl _) _).setCell (p := ⟨w.heap.size, 1, none⟩) (Nat.le_refl _) _⟩
end Go.Proofs.Ytnldhpleicpjfaa

namespace Go.Proofs.Ytnldhpleicpjfaa
open Go.RowKit

/-- the text begins with this byte -/
def hp (s : ByteArray) (c : UInt8) : Bool := decide (0 < s.size ∧ bt s 0 = c.toNat)
/-- the text behind its first byte -/
def rest1 (s : ByteArray) : ByteArray := s.extract 1 s.size

theorem ext1 (s : ByteArray) (h : 0 < s.size) : s.extract 0 1 = ⟨#[s[0]]⟩ := by
  apply ByteArray.ext
  apply Array.ext
  · simp [ByteArray.data_extract]; omega
  · intro i h1 h2
    simp at h2
    subst h2
    simp [ByteArray.data_extract]
    rfl
theorem ext1_eq (s : ByteArray) (c : UInt8) (h : 0 < s.size) : ((s.extract 0 1).toList == [c]) = hp s c := by
  have hb := bt_get s 0 h
  rw [ext1 s h]
  have e : (⟨#[s[0]]⟩ : ByteArray).toList = [s[0]] := by go_simp
  rw [e, Bool.eq_iff_iff]
  simp [hp, h, ← hb, UInt8.toNat_inj]

theorem hp_yes {s : ByteArray} {c : UInt8} (h : hp s c = true) : 0 < s.size ∧ bt s 0 = c.toNat := by simpa [hp] using h
theorem hp_no {s : ByteArray} {c : UInt8} (h : hp s c = false) (h0 : 0 < s.size) : bt s 0 ≠ c.toNat := by
  intro e; simp [hp, h0, e] at h

set_option maxRecDepth 100000 in
theorem hasPrefix_lite (s : ByteArray) (c : UInt8) (w : World) (hs : s.size ≤ 9223372036854775807) :
    Calls Try.prog 91 #[.string s, .string ⟨#[c]⟩] w fun e w' => e = .returned (.bool (hp s c)) ∧ w' = w := by
  by_cases h : 0 < s.size
  · have h1 : (1 : Int) ≤ (s.size : Int) := by omega
    go_enter Try.func91, Try.ntmps91
    go_wp2
    go_ret
    exact ⟨congrArg (fun b => Ending.returned (Value.bool b)) (ext1_eq s c h), rfl⟩
  · have h0 : s.size = 0 := by omega
    go_enter Try.func91, Try.ntmps91
    go_wp2
    go_ret
    exact ⟨by simp [hp, h0], rfl⟩

set_option maxRecDepth 100000 in
theorem hasPrefix_any (s : ByteArray) (c : UInt8) (w : World) (hs : s.size ≤ 9223372036854775807) :
    Calls Try.prog 78 #[.string s, .string ⟨#[c]⟩] w fun e w' => e = .returned (.bool (hp s c)) ∧ w' = w := by
  go_enter Try.func78, Try.ntmps78
  go_wp2_with fail
  refine (hasPrefix_lite s c _ hs).mono ?_
  rintro e w' ⟨rfl, rfl⟩
  go_wp2
  go_ret
  exact ⟨rfl, rfl⟩

/-- what CutPrefix answers: the text behind the prefix -/
def cutP (s : ByteArray) (c : UInt8) : ByteArray := if hp s c then rest1 s else s

set_option maxRecDepth 100000 in
theorem cutPrefix_lite (s : ByteArray) (c : UInt8) (w : World) (hs : s.size ≤ 9223372036854775807) :
    Calls Try.prog 90 #[.string s, .string ⟨#[c]⟩] w fun e w' => e = .returned (.tuple #[.string (cutP s c), .bool (hp s c)]) ∧ w' = w := by
  go_enter Try.func90, Try.ntmps90
  go_wp2_with fail
  refine (hasPrefix_lite s c _ hs).mono ?_
  rintro e w' ⟨rfl, rfl⟩
  cases hc : hp s c with
  | false =>
    have HC := hide hc
    clear hc
    go_wp2
    go_ret2
    exact ⟨by simp [cutP, HC.out], rfl⟩
  | true =>
    have HC := hide hc
    have h1 : (1 : Int) ≤ (s.size : Int) := by have := (hp_yes hc).1; omega
    clear hc
    go_wp2
    go_ret2
    exact ⟨by simp [cutP, HC.out, rest1], rfl⟩
set_option maxRecDepth 100000 in
theorem cutPrefix_any (s : ByteArray) (c : UInt8) (w : World) (hs : s.size ≤ 9223372036854775807) :
    Calls Try.prog 77 #[.string s, .string ⟨#[c]⟩] w fun e w' => e = .returned (.tuple #[.string (cutP s c), .bool (hp s c)]) ∧ w' = w := by
  go_enter Try.func77, Try.ntmps77
  go_wp2_with fail
  refine (cutPrefix_lite s c _ hs).mono ?_
  rintro e w' ⟨rfl, rfl⟩
  go_wp2
  go_ret2
  exact ⟨rfl, rfl⟩

end Go.Proofs.Ytnldhpleicpjfaa

namespace Go.Proofs.Ytnldhpleicpjfaa
open Go.RowKit

/-- what a text reads as: a number with a sign -/
def IRd (s : ByteArray) (z : Int) (a b : Nat) : Prop :=
  (65536 < s.size ∧ z = 0 ∧ a = 3 ∧ b = 65536) ∨
  (s.size ≤ 65536 ∧ hp s 45 = true ∧ hp (rest1 s) 48 = true ∧ z = 0 ∧ a = 6 ∧ b = 1) ∨
  (s.size ≤ 65536 ∧ ¬ (hp s 45 = true ∧ hp (rest1 s) 48 = true) ∧ ∃ xs a' b', Rd (cutP s 45) xs a' b' ∧
    ((a' ≠ 0 ∧ z = 0 ∧ a = a' ∧ b = b' + (s.size - (cutP s 45).size)) ∨ (a' = 0 ∧ z = sg (hp s 45) (val xs) ∧ a = 0 ∧ b = 0)))

theorem rest1_size (s : ByteArray) : (rest1 s).size = s.size - 1 := by simp [rest1]
theorem cutP_size (s : ByteArray) (c : UInt8) : (cutP s c).size ≤ s.size := by unfold cutP; split; rw [rest1_size]; omega; omega
theorem Rd.small {s : ByteArray} {xs : List Nat} {a b : Nat} (h : Rd s xs a b) : a ≤ 6 ∧ b ≤ 65536 := by
  rcases h with ⟨_, _, rfl, rfl⟩ | ⟨_, _, rfl, rfl⟩ | ⟨_, i, _, _, _, _, rfl, rfl⟩ | ⟨_, _, _, _, rfl, rfl⟩ <;> omega
theorem Rd.lims {s : ByteArray} {xs : List Nat} {a b : Nat} (h : Rd s xs a b) : ∃ n, xs = lim n := by
  rcases h with ⟨_, rfl, _, _⟩ | ⟨_, rfl, _, _⟩ | ⟨_, i, _, _, _, rfl, _, _⟩ | ⟨_, _, _, rfl, _, _⟩
  · exact ⟨0, rfl⟩
  · exact ⟨0, rfl⟩
  · exact ⟨0, rfl⟩
  · exact ⟨_, rfl⟩

theorem Rd.none {s : ByteArray} {xs : List Nat} {b : Nat} (h : Rd s xs 0 b) : b = 0 := by
  rcases h with ⟨_, _, h, _⟩ | ⟨_, _, h, _⟩ | ⟨_, i, _, _, _, _, h, _⟩ | ⟨_, _, _, _, _, h⟩ <;> omega
theorem Box2.put {W : World} {B : Nat} {t : TypeId} {x y : Value} (h : Box2 W B t x y) (x' y' : Value) : Box2 ((W.setCell ⟨B, 0, none⟩ x').setCell ⟨B, 1, none⟩ y') B t x' y' := (h.set0 _).set1 _
theorem Box2.other {W : World} {B C : Nat} {t : TypeId} {x y : Value} (h : Box2 W B t x y) (hne : C ≠ B) (x' y' : Value) : Box2 ((W.setCell ⟨C, 0, none⟩ x').setCell ⟨C, 1, none⟩ y') B t x y := (h.set_ne hne _).set_ne hne _
theorem Box2.keeps {W : World} {B : Nat} {t : TypeId} {x y : Value} (h : Box2 W B t x y) (hx : ∀ z, x ≠ .int .u32 z) (hy : ∀ z, y ≠ .int .u32 z) (x' y' : Value) : Spares W ((W.setCell ⟨B, 0, none⟩ x').setCell ⟨B, 1, none⟩ y') :=
  (Spares.set h.cell0 hx x').trans (Spares.set (h.set0 x').cell1 hy y')

/-- a number and a place are handed back -/
theorem ret_ispot {fn : Func} {R : Ending → World → Prop} {a : Act} {w : World} {p q : Tmp} (h : fn.results = #[.cell p 28, .cell q 61]) (g g' : Nat) (x y x' y' : Value)
    (hp : a.tmps.getD p undef = .pointer (some ⟨g, 0, none⟩)) (hq : a.tmps.getD q undef = .pointer (some ⟨g', 0, none⟩)) (hg : Box w g x y) (hg' : Box2 w g' 61 x' y') (hd : a.defers = []) (hR : R (.returned (.tuple #[.agg #[x, y], .agg #[x', y']])) w) : bodyPost Try.prog fn R .ret a w := by
  refine bodyPost_ret ?_ hd hR
  have hp' : a.tmps[p]?.getD undef = .pointer (some ⟨g, 0, none⟩) := by simpa using hp
  have hq' : a.tmps[q]?.getD undef = .pointer (some ⟨g', 0, none⟩) := by simpa using hq
  simp [results, h, hp', hq', asAddr, run_loadVar_row w g 28 28 #[x, y] (0, 0) _ hg Try.underlying28 rfl Try.infoInt, run_loadVar_row w g' 61 61 #[x', y'] (0, 0) _ hg' Try.underlying61 rfl Try.infoSpot]

theorem boxis (w : World) (x y x' y' : Value) : ∀ W, W = (w.alloc (.cells #[x, y] 28)).alloc (.cells #[x', y'] 61) → Box W w.heap.size x y ∧ Box2 W (w.heap.size + 1) 61 x' y' ∧ Below w.heap.size w W := by
  rintro W rfl
  exact ⟨(Box.new _ _ _).step (below_alloc _ _), by have := Box2.new (w.alloc (.cells #[x, y] 28)) 61 x' y'; rwa [World.size_alloc] at this, (below_alloc _ _).trans ((below_alloc _ _).mono (by simp))⟩
theorem int_zero (w : World) : IntAt w (.agg #[.bool false, .slice none 0 0]) 0 := ⟨false, 0, none, 0, by rw [lim_zero]; rfl, by rw [lim_zero]; exact Nums.nil_mk _ _ _ (Nat.zero_le _), rfl, fun _ => rfl⟩

set_option maxRecDepth 100000 in
set_option maxHeartbeats 4000000 in
theorem iread_any (s : ByteArray) (w : World) (hs : s.size ≤ 9223372036854775807) :
    Calls Try.prog 57 #[.string s] w fun e w' => ∃ v z a b, e = .returned (.tuple #[v, .agg #[.int .i64 (a : Nat), .int .i64 (b : Nat)]]) ∧ IntAt w' v z ∧ IRd s z a b ∧ Below w.heap.size w w' := by
  go_enter Try.func57, Try.ntmps57
  by_cases hb : 65536 < s.size
  · go_wp2
    have HE := boxis w (.bool false) (.slice none 0 0) (.int .i64 3) (.int .i64 65536) _ rfl
    refine ret_ispot rfl w.heap.size (w.heap.size + 1) _ _ _ _ rfl rfl HE.1 HE.2.1 rfl ?_
    exact ⟨_, 0, 3, 65536, rfl, int_zero _, .inl ⟨hb, rfl, rfl, rfl⟩, HE.2.2⟩
  · go_wp2_with fail
    refine (cutPrefix_any s 45 _ hs).mono ?_
    rintro e w' ⟨rfl, rfl⟩
    have HS := hide hb
    have hcs := cutP_size s 45
    clear hb
    obtain ⟨d, hd⟩ : ∃ d, d = cutP s 45 := ⟨_, rfl⟩
    rw [← hd] at hcs ⊢
    have HD := hide hd
    clear hd
    have HE := hide (boxis w (.bool false) (.slice none 0 0) (.int .i64 0) (.int .i64 0) _ rfl)
    cases hc : hp s 45 with
    | true =>
      have HC := hide hc
      clear hc
      go_wp2_with fail
      refine (hasPrefix_any d 48 _ (by omega)).mono ?_
      rintro e w' ⟨rfl, rfl⟩
      cases h2 : hp d 48 with
      | true =>
        have H2 := hide h2
        clear h2
        go_wp2
        have HF := boxis w (.bool false) (.slice none 0 0) (.int .i64 6) (.int .i64 1) _ rfl
        refine ret_ispot rfl w.heap.size (w.heap.size + 1) _ _ _ _ rfl rfl HF.1 HF.2.1 rfl ?_
        have e1 : d = rest1 s := by rw [HD.out, cutP, if_pos HC.out]
        exact ⟨_, 0, 6, 1, rfl, int_zero _, .inr (.inl ⟨by have := HS.out; omega, HC.out, by rw [← e1]; exact H2.out, rfl, rfl, rfl⟩), HF.2.2⟩
      | false =>
        have HNO : Hid (¬ (hp s 45 = true ∧ hp (rest1 s) 48 = true)) := hide (by
          have e1 : d = rest1 s := by rw [HD.out, cutP, if_pos HC.out]
          rw [← e1, h2]; simp)
        clear h2
        go_wp2_with fail
        refine (read_any d _ (by omega)).mono ?_
        rintro e w3 ⟨v3, xs, a', b', rfl, n3, hr, hb3⟩
        have hsm := hr.small
        obtain ⟨n, rfl⟩ := hr.lims
        have HR := hide hr
        have HN := hide n3
        have HB := hide (HE.out.2.2.trans (hb3.mono HE.out.2.2.size))
        have P0 := hide (HE.out.1.step hb3)
        have P1 := hide (HE.out.2.1.step hb3)
        clear hr n3 hb3 HE
        by_cases ha : a' = 0
        · subst ha
          have hb0 := HR.out.none
          subst hb0
          go_wp2_with fail
          have al := below_alloc w3 (.cells #[.int .i64 0, .int .i64 0] 61)
          have PS := hide (Box2.new w3 61 (.int .i64 0) (.int .i64 0))
          have LTS : Hid (w.heap.size + 1 < w3.heap.size) := hide P1.out.lt
          replace HB := hide (HB.out.trans (al.mono HB.out.size))
          replace P0 := hide (P0.out.step al)
          replace P1 := hide (P1.out.step al)
          replace HN := hide (HN.out.below al)
          clear al
          generalize w3.alloc (.cells #[.int .i64 0, .int .i64 0] 61) = w4 at *
          generalize w3.heap.size = gs at *
          replace P0 := hide P0.out.drew
          replace P1 := hide P1.out.drew
          refine wp_calm (fun w' => Below w.heap.size w w' ∧ Box2 w' gs 61 (.int .i64 0) (.int .i64 0) ∧ Nums w' v3 (lim n)) (fun _ => true) 6 #[false, false, false, false, false, false] (by kernel_rfl) rfl rfl ?_
          have HF := hide (And.intro (HB.out.drew) (And.intro (PS.out.drew) (HN.out.drew)))
          generalize w4.drew = w4d at *
          refine Calm.take (i := 0) (v := ?_) (a' := ?_) (l' := #[true, false, false, false, false, false]) (d := some 44) rfl (by kernel_rfl) (by kernel_rfl) (by kernel_rfl) (by kernel_rfl) (fun _ _ _ h => h) HF.out rfl ?_ rfl rfl ?_ ?_
          rotate_left
          · intro w' hF; clear hF; go_simp; try rfl
          rotate_left
          · simp only [Act.put]; exact rfl
          refine Calm.take (i := 1) (v := ?_) (a' := ?_) (l' := #[true, true, false, false, false, false]) (d := some 45) rfl (by kernel_rfl) (by kernel_rfl) (by kernel_rfl) (by kernel_rfl) (fun _ _ _ h => h) HF.out rfl ?_ rfl rfl ?_ ?_
          rotate_left
          · intro w' hF; clear hF; go_simp; try rfl
          rotate_left
          · simp only [Act.put]; exact rfl
          refine Calm.take (i := 3) (v := ?_) (a' := ?_) (l' := #[true, true, false, true, false, false]) (d := some 47) rfl (by kernel_rfl) (by kernel_rfl) (by kernel_rfl) (by kernel_rfl) (fun _ _ _ h => h) HF.out rfl ?_ rfl rfl ?_ ?_
          rotate_left
          · intro w' hF; have f10 := hF.2.1.cell0; have f11 := hF.2.1.cell1; clear hF; go_simp; try rfl
          rotate_left
          · simp only [Act.put]; exact rfl
          refine Calm.one (i := 2) (l' := #[true, true, true, true, false, false]) (by kernel_rfl) rfl rfl rfl fun K hK => ?_
          go_simp
          refine (made_any true n _ _ HF.out.2.2).mono ?_
          rintro e u1 ⟨v, rfl, n, hb⟩
          obtain ⟨sq, mq, kq, cq, rfl, n⟩ := n.cells
          replace P0 := hide (P0.out.step (hb))
          replace P1 := hide (P1.out.step (hb))
          have HF' := hide (And.intro (HF.out.1.trans ((hb).mono HF.out.1.size)) (And.intro (HF.out.2.1.step (hb)) (HF.out.2.2.below (hb))))
          have TQ := hide (n)
          refine hK _ _ (fun _ => HF'.out) ?_
          clear hK K HF hb n
          have HF := hide HF'.out
          clear HF'
          refine Calm.one (i := 4) (l' := #[true, true, true, true, true, false]) (by kernel_rfl) rfl rfl rfl fun K hK => ?_
          have hc0 := P0.out.cell0
          have hc1 := P0.out.cell1
          have hf0 := P0.out.free 0
          have hf1 := P0.out.free 1
          go_simp
          have HF' := hide (And.intro (below_put HF.out.1 (show w.heap.size ≤ w.heap.size by have hx := LTS.out; omega) (.bool sq) (.slice mq kq cq)) (And.intro (HF.out.2.1.other (C := w.heap.size) (by have hx := LTS.out; omega) (.bool sq) (.slice mq kq cq)) (P0.out.keeps (by simp) (by simp) (.bool sq) (.slice mq kq cq) _ _ HF.out.2.2)))
          replace P1 := hide (P1.out.other (C := w.heap.size) (by have hx := LTS.out; omega) (.bool sq) (.slice mq kq cq))
          replace TQ := hide (TQ.out.keep (P0.out.keeps (by simp) (by simp) (.bool sq) (.slice mq kq cq)))
          replace P0 := hide (P0.out.put (.bool sq) (.slice mq kq cq))
          refine hK _ _ (fun _ => HF'.out) ?_
          clear hK K HF hc0 hc1 hf0 hf1
          have HF := hide HF'.out
          clear HF'
          generalize (u1.setCell ⟨w.heap.size, 0, none⟩ (.bool sq)).setCell ⟨w.heap.size, 1, none⟩ (.slice mq kq cq) = ws1 at *
          refine Calm.one (i := 5) (l' := #[true, true, true, true, true, true]) (by kernel_rfl) rfl rfl rfl fun K hK => ?_
          have hc0 := P1.out.cell0
          have hc1 := P1.out.cell1
          have hf0 := P1.out.free 0
          have hf1 := P1.out.free 1
          go_simp
          have HF' := hide (And.intro (below_put HF.out.1 (show w.heap.size ≤ (w.heap.size + 1) by have hx := LTS.out; omega) (.int .i64 0) (.int .i64 0)) (And.intro (HF.out.2.1.other (C := (w.heap.size + 1)) (by have hx := LTS.out; omega) (.int .i64 0) (.int .i64 0)) (P1.out.keeps (by simp) (by simp) (.int .i64 0) (.int .i64 0) _ _ HF.out.2.2)))
          replace P0 := hide (P0.out.other (C := (w.heap.size + 1)) (by have hx := LTS.out; omega) (.int .i64 0) (.int .i64 0))
          replace TQ := hide (TQ.out.keep (P1.out.keeps (by simp) (by simp) (.int .i64 0) (.int .i64 0)))
          replace P1 := hide (P1.out.put (.int .i64 0) (.int .i64 0))
          refine hK _ _ (fun _ => HF'.out) ?_
          clear hK K HF hc0 hc1 hf0 hf1
          have HF := hide HF'.out
          clear HF'
          generalize (ws1.setCell ⟨(w.heap.size + 1), 0, none⟩ (.int .i64 0)).setCell ⟨(w.heap.size + 1), 1, none⟩ (.int .i64 0) = ws2 at *
          refine Calm.done (by kernel_rfl) ?_
          go_wp2
          refine ret_ispot rfl w.heap.size (w.heap.size + 1) _ _ _ _ rfl rfl P0.out P1.out rfl ?_
          exact ⟨_, _, 0, 0, rfl, TQ.out, .inr (.inr ⟨by have := HS.out; omega, HNO.out, _, 0, 0, HD.out ▸ HR.out, .inr ⟨rfl, by rw [HC.out, val_lim], rfl, rfl⟩⟩), HF.out.1⟩
        · have hne : ((a' : Int) == 0) = false := by simp; omega
          go_wp2_with fail
          have al := below_alloc w3 (.cells #[.int .i64 (a' : Nat), .int .i64 ((b' : Int) + ((s.size : Int) - (d.size : Int)))] 61)
          have PS := hide (Box2.new w3 61 (.int .i64 (a' : Nat)) (.int .i64 ((b' : Int) + ((s.size : Int) - (d.size : Int)))))
          have LTS : Hid (w.heap.size + 1 < w3.heap.size) := hide P1.out.lt
          replace HB := hide (HB.out.trans (al.mono HB.out.size))
          replace P0 := hide (P0.out.step al)
          replace P1 := hide (P1.out.step al)
          replace HN := hide (HN.out.below al)
          clear al
          generalize w3.alloc (.cells #[.int .i64 (a' : Nat), .int .i64 ((b' : Int) + ((s.size : Int) - (d.size : Int)))] 61) = w4 at *
          generalize w3.heap.size = gs at *
          clear hne HN
          replace P0 := hide P0.out.drew
          replace P1 := hide P1.out.drew
          refine wp_calm (fun w' => Below w.heap.size w w' ∧ Box2 w' gs 61 (.int .i64 (a' : Nat)) (.int .i64 ((b' : Int) + ((s.size : Int) - (d.size : Int))))) (fun _ => true) 4 #[false, false, false, false] (by kernel_rfl) rfl rfl ?_
          have HF := hide (And.intro (HB.out.drew) (PS.out.drew))
          generalize w4.drew = w4d at *
          refine Calm.take (i := 0) (v := ?_) (a' := ?_) (l' := #[true, false, false, false]) (d := some 42) rfl (by kernel_rfl) (by kernel_rfl) (by kernel_rfl) (by kernel_rfl) (fun _ _ _ h => h) HF.out rfl ?_ rfl rfl ?_ ?_
          rotate_left
          · intro w' hF; clear hF; go_simp; try rfl
          rotate_left
          · simp only [Act.put]; exact rfl
          refine Calm.take (i := 1) (v := ?_) (a' := ?_) (l' := #[true, true, false, false]) (d := some 43) rfl (by kernel_rfl) (by kernel_rfl) (by kernel_rfl) (by kernel_rfl) (fun _ _ _ h => h) HF.out rfl ?_ rfl rfl ?_ ?_
          rotate_left
          · intro w' hF; have f10 := hF.2.cell0; have f11 := hF.2.cell1; clear hF; go_simp; try rfl
          rotate_left
          · simp only [Act.put]; exact rfl
          refine Calm.one (i := 2) (l' := #[true, true, true, false]) (by kernel_rfl) rfl rfl rfl fun K hK => ?_
          have hc0 := P0.out.cell0
          have hc1 := P0.out.cell1
          have hf0 := P0.out.free 0
          have hf1 := P0.out.free 1
          go_simp
          have HF' := hide (And.intro (below_put HF.out.1 (show w.heap.size ≤ w.heap.size by have hx := LTS.out; omega) (.bool false) (.slice none 0 0)) (HF.out.2.other (C := w.heap.size) (by have hx := LTS.out; omega) (.bool false) (.slice none 0 0)))
          replace P1 := hide (P1.out.other (C := w.heap.size) (by have hx := LTS.out; omega) (.bool false) (.slice none 0 0))
          replace P0 := hide (P0.out.put (.bool false) (.slice none 0 0))
          refine hK _ _ (fun _ => HF'.out) ?_
          clear hK K HF hc0 hc1 hf0 hf1
          have HF := hide HF'.out
          clear HF'
          generalize (w4d.setCell ⟨w.heap.size, 0, none⟩ (.bool false)).setCell ⟨w.heap.size, 1, none⟩ (.slice none 0 0) = ws1 at *
          refine Calm.one (i := 3) (l' := #[true, true, true, true]) (by kernel_rfl) rfl rfl rfl fun K hK => ?_
          have hc0 := P1.out.cell0
          have hc1 := P1.out.cell1
          have hf0 := P1.out.free 0
          have hf1 := P1.out.free 1
          go_simp
          have HF' := hide (And.intro (below_put HF.out.1 (show w.heap.size ≤ (w.heap.size + 1) by have hx := LTS.out; omega) (.int .i64 (a' : Nat)) (.int .i64 ((b' : Int) + ((s.size : Int) - (d.size : Int))))) (HF.out.2.other (C := (w.heap.size + 1)) (by have hx := LTS.out; omega) (.int .i64 (a' : Nat)) (.int .i64 ((b' : Int) + ((s.size : Int) - (d.size : Int))))))
          replace P0 := hide (P0.out.other (C := (w.heap.size + 1)) (by have hx := LTS.out; omega) (.int .i64 (a' : Nat)) (.int .i64 ((b' : Int) + ((s.size : Int) - (d.size : Int)))))
          replace P1 := hide (P1.out.put (.int .i64 (a' : Nat)) (.int .i64 ((b' : Int) + ((s.size : Int) - (d.size : Int)))))
          refine hK _ _ (fun _ => HF'.out) ?_
          clear hK K HF hc0 hc1 hf0 hf1
          have HF := hide HF'.out
          clear HF'
          generalize (ws1.setCell ⟨(w.heap.size + 1), 0, none⟩ (.int .i64 (a' : Nat))).setCell ⟨(w.heap.size + 1), 1, none⟩ (.int .i64 ((b' : Int) + ((s.size : Int) - (d.size : Int)))) = ws2 at *
          refine Calm.done (by kernel_rfl) ?_
          go_wp2
          refine ret_ispot rfl w.heap.size (w.heap.size + 1) _ _ _ _ rfl rfl P0.out P1.out rfl ?_
          refine ⟨_, 0, a', b' + (s.size - d.size), ?_, int_zero _, .inr (.inr ⟨by have := HS.out; omega, HNO.out, _, a', b', HD.out ▸ HR.out, .inl ⟨ha, rfl, rfl, by rw [← HD.out]⟩⟩), HF.out.1⟩
          rw [show ((b' : Int) + ((s.size : Int) - (d.size : Int))) = ((b' + (s.size - d.size) : Nat) : Int) by omega]
    | false =>
      have HC := hide hc
      have HNO : Hid (¬ (hp s 45 = true ∧ hp (rest1 s) 48 = true)) := hide (by rw [hc]; simp)
      clear hc
      go_wp2_with fail
      refine (read_any d _ (by omega)).mono ?_
      rintro e w3 ⟨v3, xs, a', b', rfl, n3, hr, hb3⟩
      have hsm := hr.small
      obtain ⟨n, rfl⟩ := hr.lims
      have HR := hide hr
      have HN := hide n3
      have HB := hide (HE.out.2.2.trans (hb3.mono HE.out.2.2.size))
      have P0 := hide (HE.out.1.step hb3)
      have P1 := hide (HE.out.2.1.step hb3)
      clear hr n3 hb3 HE
      by_cases ha : a' = 0
      · subst ha
        have hb0 := HR.out.none
        subst hb0
        go_wp2_with fail
        have al := below_alloc w3 (.cells #[.int .i64 0, .int .i64 0] 61)
        have PS := hide (Box2.new w3 61 (.int .i64 0) (.int .i64 0))
        have LTS : Hid (w.heap.size + 1 < w3.heap.size) := hide P1.out.lt
        replace HB := hide (HB.out.trans (al.mono HB.out.size))
        replace P0 := hide (P0.out.step al)
        replace P1 := hide (P1.out.step al)
        replace HN := hide (HN.out.below al)
        clear al
        generalize w3.alloc (.cells #[.int .i64 0, .int .i64 0] 61) = w4 at *
        generalize w3.heap.size = gs at *
        replace P0 := hide P0.out.drew
        replace P1 := hide P1.out.drew
        refine wp_calm (fun w' => Below w.heap.size w w' ∧ Box2 w' gs 61 (.int .i64 0) (.int .i64 0) ∧ Nums w' v3 (lim n)) (fun _ => true) 6 #[false, false, false, false, false, false] (by kernel_rfl) rfl rfl ?_
        have HF := hide (And.intro (HB.out.drew) (And.intro (PS.out.drew) (HN.out.drew)))
        generalize w4.drew = w4d at *
        refine Calm.take (i := 0) (v := ?_) (a' := ?_) (l' := #[true, false, false, false, false, false]) (d := some 44) rfl (by kernel_rfl) (by kernel_rfl) (by kernel_rfl) (by kernel_rfl) (fun _ _ _ h => h) HF.out rfl ?_ rfl rfl ?_ ?_
        rotate_left
        · intro w' hF; clear hF; go_simp; try rfl
        rotate_left
        · simp only [Act.put]; exact rfl
        refine Calm.take (i := 1) (v := ?_) (a' := ?_) (l' := #[true, true, false, false, false, false]) (d := some 45) rfl (by kernel_rfl) (by kernel_rfl) (by kernel_rfl) (by kernel_rfl) (fun _ _ _ h => h) HF.out rfl ?_ rfl rfl ?_ ?_
        rotate_left
        · intro w' hF; clear hF; go_simp; try rfl
        rotate_left
        · simp only [Act.put]; exact rfl
        refine Calm.take (i := 3) (v := ?_) (a' := ?_) (l' := #[true, true, false, true, false, false]) (d := some 47) rfl (by kernel_rfl) (by kernel_rfl) (by kernel_rfl) (by kernel_rfl) (fun _ _ _ h => h) HF.out rfl ?_ rfl rfl ?_ ?_
        rotate_left
        · intro w' hF; have f10 := hF.2.1.cell0; have f11 := hF.2.1.cell1; clear hF; go_simp; try rfl
        rotate_left
        · simp only [Act.put]; exact rfl
        refine Calm.one (i := 2) (l' := #[true, true, true, true, false, false]) (by kernel_rfl) rfl rfl rfl fun K hK => ?_
        go_simp
        refine (made_any false n _ _ HF.out.2.2).mono ?_
        rintro e u1 ⟨v, rfl, n, hb⟩
        obtain ⟨sq, mq, kq, cq, rfl, n⟩ := n.cells
        replace P0 := hide (P0.out.step (hb))
        replace P1 := hide (P1.out.step (hb))
        have HF' := hide (And.intro (HF.out.1.trans ((hb).mono HF.out.1.size)) (And.intro (HF.out.2.1.step (hb)) (HF.out.2.2.below (hb))))
        have TQ := hide (n)
        refine hK _ _ (fun _ => HF'.out) ?_
        clear hK K HF hb n
        have HF := hide HF'.out
        clear HF'
        refine Calm.one (i := 4) (l' := #[true, true, true, true, true, false]) (by kernel_rfl) rfl rfl rfl fun K hK => ?_
        have hc0 := P0.out.cell0
        have hc1 := P0.out.cell1
        have hf0 := P0.out.free 0
        have hf1 := P0.out.free 1
        go_simp
        have HF' := hide (And.intro (below_put HF.out.1 (show w.heap.size ≤ w.heap.size by have hx := LTS.out; omega) (.bool sq) (.slice mq kq cq)) (And.intro (HF.out.2.1.other (C := w.heap.size) (by have hx := LTS.out; omega) (.bool sq) (.slice mq kq cq)) (P0.out.keeps (by simp) (by simp) (.bool sq) (.slice mq kq cq) _ _ HF.out.2.2)))
        replace P1 := hide (P1.out.other (C := w.heap.size) (by have hx := LTS.out; omega) (.bool sq) (.slice mq kq cq))
        replace TQ := hide (TQ.out.keep (P0.out.keeps (by simp) (by simp) (.bool sq) (.slice mq kq cq)))
        replace P0 := hide (P0.out.put (.bool sq) (.slice mq kq cq))
        refine hK _ _ (fun _ => HF'.out) ?_
        clear hK K HF hc0 hc1 hf0 hf1
        have HF := hide HF'.out
        clear HF'
        generalize (u1.setCell ⟨w.heap.size, 0, none⟩ (.bool sq)).setCell ⟨w.heap.size, 1, none⟩ (.slice mq kq cq) = ws1 at *
        refine Calm.one (i := 5) (l' := #[true, true, true, true, true, true]) (by kernel_rfl) rfl rfl rfl fun K hK => ?_
        have hc0 := P1.out.cell0
        have hc1 := P1.out.cell1
        have hf0 := P1.out.free 0
        have hf1 := P1.out.free 1
        go_simp
        have HF' := hide (And.intro (below_put HF.out.1 (show w.heap.size ≤ (w.heap.size + 1) by have hx := LTS.out; omega) (.int .i64 0) (.int .i64 0)) (And.intro (HF.out.2.1.other (C := (w.heap.size + 1)) (by have hx := LTS.out; omega) (.int .i64 0) (.int .i64 0)) (P1.out.keeps (by simp) (by simp) (.int .i64 0) (.int .i64 0) _ _ HF.out.2.2)))
        replace P0 := hide (P0.out.other (C := (w.heap.size + 1)) (by have hx := LTS.out; omega) (.int .i64 0) (.int .i64 0))
        replace TQ := hide (TQ.out.keep (P1.out.keeps (by simp) (by simp) (.int .i64 0) (.int .i64 0)))
        replace P1 := hide (P1.out.put (.int .i64 0) (.int .i64 0))
        refine hK _ _ (fun _ => HF'.out) ?_
        clear hK K HF hc0 hc1 hf0 hf1
        have HF := hide HF'.out
        clear HF'
        generalize (ws1.setCell ⟨(w.heap.size + 1), 0, none⟩ (.int .i64 0)).setCell ⟨(w.heap.size + 1), 1, none⟩ (.int .i64 0) = ws2 at *
        refine Calm.done (by kernel_rfl) ?_
        go_wp2
        refine ret_ispot rfl w.heap.size (w.heap.size + 1) _ _ _ _ rfl rfl P0.out P1.out rfl ?_
        exact ⟨_, _, 0, 0, rfl, TQ.out, .inr (.inr ⟨by have := HS.out; omega, HNO.out, _, 0, 0, HD.out ▸ HR.out, .inr ⟨rfl, by rw [HC.out, val_lim], rfl, rfl⟩⟩), HF.out.1⟩
      · have hne : ((a' : Int) == 0) = false := by simp; omega
        go_wp2_with fail
        have al := below_alloc w3 (.cells #[.int .i64 (a' : Nat), .int .i64 ((b' : Int) + ((s.size : Int) - (d.size : Int)))] 61)
        have PS := hide (Box2.new w3 61 (.int .i64 (a' : Nat)) (.int .i64 ((b' : Int) + ((s.size : Int) - (d.size : Int)))))
        have LTS : Hid (w.heap.size + 1 < w3.heap.size) := hide P1.out.lt
        replace HB := hide (HB.out.trans (al.mono HB.out.size))
        replace P0 := hide (P0.out.step al)
        replace P1 := hide (P1.out.step al)
        replace HN := hide (HN.out.below al)
        clear al
        generalize w3.alloc (.cells #[.int .i64 (a' : Nat), .int .i64 ((b' : Int) + ((s.size : Int) - (d.size : Int)))] 61) = w4 at *
        generalize w3.heap.size = gs at *
        clear hne HN
        replace P0 := hide P0.out.drew
        replace P1 := hide P1.out.drew
        refine wp_calm (fun w' => Below w.heap.size w w' ∧ Box2 w' gs 61 (.int .i64 (a' : Nat)) (.int .i64 ((b' : Int) + ((s.size : Int) - (d.size : Int))))) (fun _ => true) 4 #[false, false, false, false] (by kernel_rfl) rfl rfl ?_
        have HF := hide (And.intro (HB.out.drew) (PS.out.drew))
        generalize w4.drew = w4d at *
        refine Calm.take (i := 0) (v := ?_) (a' := ?_) (l' := #[true, false, false, false]) (d := some 42) rfl (by kernel_rfl) (by kernel_rfl) (by kernel_rfl) (by kernel_rfl) (fun _ _ _ h => h) HF.out rfl ?_ rfl rfl ?_ ?_
        rotate_left
        · intro w' hF; clear hF; go_simp; try rfl
        rotate_left
        · simp only [Act.put]; exact rfl
        refine Calm.take (i := 1) (v := ?_) (a' := ?_) (l' := #[true, true, false, false]) (d := some 43) rfl (by kernel_rfl) (by kernel_rfl) (by kernel_rfl) (by kernel_rfl) (fun _ _ _ h => h) HF.out rfl ?_ rfl rfl ?_ ?_
        rotate_left
        · intro w' hF; have f10 := hF.2.cell0; have f11 := hF.2.cell1; clear hF; go_simp; try rfl
        rotate_left
        · simp only [Act.put]; exact rfl
        refine Calm.one (i := 2) (l' := #[true, true, true, false]) (by kernel_rfl) rfl rfl rfl fun K hK => ?_
        have hc0 := P0.out.cell0
        have hc1 := P0.out.cell1
        have hf0 := P0.out.free 0
        have hf1 := P0.out.free 1
        go_simp
        have HF' := hide (And.intro (below_put HF.out.1 (show w.heap.size ≤ w.heap.size by have hx := LTS.out; omega) (.bool false) (.slice none 0 0)) (HF.out.2.other (C := w.heap.size) (by have hx := LTS.out; omega) (.bool false) (.slice none 0 0)))
        replace P1 := hide (P1.out.other (C := w.heap.size) (by have hx := LTS.out; omega) (.bool false) (.slice none 0 0))
        replace P0 := hide (P0.out.put (.bool false) (.slice none 0 0))
        refine hK _ _ (fun _ => HF'.out) ?_
        clear hK K HF hc0 hc1 hf0 hf1
        have HF := hide HF'.out
        clear HF'
        generalize (w4d.setCell ⟨w.heap.size, 0, none⟩ (.bool false)).setCell ⟨w.heap.size, 1, none⟩ (.slice none 0 0) = ws1 at *
        refine Calm.one (i := 3) (l' := #[true, true, true, true]) (by kernel_rfl) rfl rfl rfl fun K hK => ?_
        have hc0 := P1.out.cell0
        have hc1 := P1.out.cell1
        have hf0 := P1.out.free 0
        have hf1 := P1.out.free 1
        go_simp
        have HF' := hide (And.intro (below_put HF.out.1 (show w.heap.size ≤ (w.heap.size + 1) by have hx := LTS.out; omega) (.int .i64 (a' : Nat)) (.int .i64 ((b' : Int) + ((s.size : Int) - (d.size : Int))))) (HF.out.2.other (C := (w.heap.size + 1)) (by have hx := LTS.out; omega) (.int .i64 (a' : Nat)) (.int .i64 ((b' : Int) + ((s.size : Int) - (d.size : Int))))))
        replace P0 := hide (P0.out.other (C := (w.heap.size + 1)) (by have hx := LTS.out; omega) (.int .i64 (a' : Nat)) (.int .i64 ((b' : Int) + ((s.size : Int) - (d.size : Int)))))
        replace P1 := hide (P1.out.put (.int .i64 (a' : Nat)) (.int .i64 ((b' : Int) + ((s.size : Int) - (d.size : Int)))))
        refine hK _ _ (fun _ => HF'.out) ?_
        clear hK K HF hc0 hc1 hf0 hf1
        have HF := hide HF'.out
        clear HF'
        generalize (ws1.setCell ⟨(w.heap.size + 1), 0, none⟩ (.int .i64 (a' : Nat))).setCell ⟨(w.heap.size + 1), 1, none⟩ (.int .i64 ((b' : Int) + ((s.size : Int) - (d.size : Int)))) = ws2 at *
        refine Calm.done (by kernel_rfl) ?_
        go_wp2
        refine ret_ispot rfl w.heap.size (w.heap.size + 1) _ _ _ _ rfl rfl P0.out P1.out rfl ?_
        refine ⟨_, 0, a', b' + (s.size - d.size), ?_, int_zero _, .inr (.inr ⟨by have := HS.out; omega, HNO.out, _, a', b', HD.out ▸ HR.out, .inl ⟨ha, rfl, rfl, by rw [← HD.out]⟩⟩), HF.out.1⟩
        rw [show ((b' : Int) + ((s.size : Int) - (d.size : Int))) = ((b' + (s.size - d.size) : Nat) : Int) by omega]
end Go.Proofs.Ytnldhpleicpjfaa
