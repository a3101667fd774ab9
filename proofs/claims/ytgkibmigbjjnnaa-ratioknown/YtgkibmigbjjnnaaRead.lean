/- limb.Read: the number of a text, or what is wrong with it. -/
import Derived.Test.YtgkibmigbjjnnaaFault
import Derived.Test.YtgkibmigbjjnnaaBox
import Derived.Test.YtgkibmigbjjnnaaDec
namespace Go.Proofs.Ytgkibmigbjjnnaa
open Go.RowKit

/-- the number that the first k bytes say -/
def nv (s : ByteArray) : Nat → Nat
  | 0 => 0
  | k + 1 => nv s k * 10 + (bt s k - 48)

/-- what a text reads as -/
def Rd (s : ByteArray) (xs : List Nat) (a b : Nat) : Prop :=
  (65536 < s.size ∧ xs = [] ∧ a = 3 ∧ b = 65536) ∨ (s.size = 0 ∧ xs = [] ∧ a = 6 ∧ b = 0) ∨
  (s.size ≤ 65536 ∧ ∃ i, i < s.size ∧ Good s i ∧ ¬ Fine s i ∧ xs = [] ∧ a = 6 ∧ b = i) ∨
  (s.size ≤ 65536 ∧ 0 < s.size ∧ Good s s.size ∧ xs = lim (nv s s.size) ∧ a = 0 ∧ b = 0)
theorem Rd.same {s : ByteArray} {xs ys : List Nat} {a b c d : Nat} (h : Rd s xs a b) (k : Rd s ys c d) : xs = ys ∧ a = c ∧ b = d := by
  rcases h with ⟨h1, rfl, rfl, rfl⟩ | ⟨h1, rfl, rfl, rfl⟩ | ⟨h1, i, hi, hg, hb, rfl, rfl, rfl⟩ | ⟨h1, h2, hg, rfl, rfl, rfl⟩ <;>
  rcases k with ⟨k1, rfl, rfl, rfl⟩ | ⟨k1, rfl, rfl, rfl⟩ | ⟨k1, j, kj, kg, kb, rfl, rfl, rfl⟩ | ⟨k1, k2, kg, rfl, rfl, rfl⟩ <;>
  first | omega | exact ⟨rfl, rfl, rfl⟩ | exact ⟨rfl, rfl, hg.only hb kg kb⟩ | exact absurd (hg _ kj) kb | exact absurd (kg _ hi) hb

theorem nv_lt (s : ByteArray) (k : Nat) (h : Good s k) : nv s k < 10 ^ k := by
  induction k with
  | zero => simp [nv]
  | succ k ih =>
    have h1 := ih fun j hj => h j (by omega)
    have h2 := h k (by omega)
    have h3 := h2.lo
    have h4 := h2.hi
    simp only [nv]
    rw [pow_succ10]
    omega
theorem nv_len (s : ByteArray) (k n : Nat) (h : Good s k) (hn : n ≤ nv s k) : (lim n).length ≤ k :=
  lim_length_le (Nat.lt_of_le_of_lt hn (Nat.lt_of_lt_of_le (nv_lt s k h) (Nat.pow_le_pow_left (by decide) _)))

/-- how many digits of a group have come, with r to go in all -/
def ge (r : Nat) : Nat := (9 - r % 9) % 9
/-- a text's state at the place k: so far N groups, and g -/
structure ReadAt (s : ByteArray) (k N g : Nat) : Prop where
  sum : nv s k = N * 10 ^ ge (s.size - k) + g
  lt : g < 10 ^ ge (s.size - k)
theorem ReadAt.start (s : ByteArray) : ReadAt s 0 0 0 := ⟨by simp [nv], Nat.pow_pos (by decide)⟩
theorem ge_le (r : Nat) : ge r ≤ 8 := by unfold ge; omega
theorem ReadAt.small {s : ByteArray} {k N g : Nat} (h : ReadAt s k N g) : g < 100000000 :=
  Nat.lt_of_lt_of_le h.lt (Nat.le_trans (Nat.pow_le_pow_right (by decide) (ge_le _)) (by decide))
theorem ReadAt.go {s : ByteArray} {k N g d : Nat} (h : ReadAt s k N g) (hk : k < s.size) (hd : bt s k = 48 + d) (h9 : d ≤ 9) (hm : (s.size - 1 - k) % 9 ≠ 0) : ReadAt s (k + 1) N (g * 10 + d) := by
  have e : ge (s.size - (k + 1)) = ge (s.size - k) + 1 := by unfold ge; omega
  have h1 := h.sum
  have h2 := h.lt
  refine ⟨?_, ?_⟩
  · rw [e, pow_succ10]; simp only [nv]; rw [h1, hd]
    generalize 10 ^ ge (s.size - k) = p
    rw [Nat.add_mul, Nat.mul_assoc, Nat.mul_comm p 10]; omega
  · rw [e, pow_succ10]; omega
theorem ReadAt.take {s : ByteArray} {k N g d : Nat} (h : ReadAt s k N g) (hk : k < s.size) (hd : bt s k = 48 + d) (h9 : d ≤ 9) (hm : (s.size - 1 - k) % 9 = 0) : ReadAt s (k + 1) (1000000000 * N + (g * 10 + d)) 0 := by
  have e : ge (s.size - k) = 8 := by unfold ge; omega
  have e' : ge (s.size - (k + 1)) = 0 := by unfold ge; omega
  have h1 := h.sum
  refine ⟨?_, by rw [e']; decide⟩
  rw [e'] ; simp only [nv]; rw [h1, hd, e]
  omega
theorem ReadAt.end {s : ByteArray} {N g : Nat} (h : ReadAt s s.size N g) : N = nv s s.size := by
  have h1 := h.sum
  have h2 := h.lt
  have e : ge (s.size - s.size) = 0 := by unfold ge; omega
  rw [e] at h1 h2
  omega
theorem ReadAt.le {s : ByteArray} {k N g : Nat} (h : ReadAt s k N g) : N ≤ nv s k := by
  rw [h.sum]
  exact Nat.le_trans (Nat.le_mul_of_pos_right N (Nat.pow_pos (by decide))) (Nat.le_add_right _ _)

theorem Own.set2 {w : World} {B base : Nat} {v : Value} {xs : List Nat} (h : Own w base v xs) (hB : B < base) (a b : Value) : Own ((w.setCell ⟨B, 0, none⟩ a).setCell ⟨B, 1, none⟩ b) base v xs :=
  World.ownsRow.kept h (gb_set (gb_set (World.grownBy.refl _ _) 0 a) 1 b) (.inr (fun e => by have := (World.ownsRow.lt h B e).1; omega))

theorem Try.infoSpot : (Try.prog.info? 30).map (·.size) = some 2 := by kernel_rfl
theorem ret_spot {fn : Func} {R : Ending → World → Prop} {a : Act} {w : World} {u p : Tmp} (h : fn.results = #[.tmp u, .cell p 30]) (g : Nat) (x y : Value) (t : TypeId) (fr : Nat × Nat)
    (hp : a.tmps.getD p undef = .pointer (some ⟨g, 0, none⟩)) (hg : w.heap[g]? = some (.cells #[x, y] t fr)) (hd : a.defers = []) (hR : R (.returned (.tuple #[a.tmps.getD u undef, .agg #[x, y]])) w) : bodyPost Try.prog fn R .ret a w := by
  refine bodyPost_ret ?_ hd hR
  have hp' : a.tmps[p]?.getD undef = .pointer (some ⟨g, 0, none⟩) := by simpa using hp
  simp [results, h, hp', asAddr, run_loadVar_row w g t 30 #[x, y] fr _ hg Try.underlying30 rfl Try.infoSpot]

set_option maxRecDepth 100000 in
set_option maxHeartbeats 1000000 in
theorem read_any (s : ByteArray) (w : World) (hw : s.size ≤ 9223372036854775807) :
    Calls Try.prog 69 #[.string s] w fun e w' => ∃ v xs a b, e = .returned (.tuple #[v, .agg #[.int .i64 (a : Nat), .int .i64 (b : Nat)]]) ∧ Nums w' v xs ∧ Rd s xs a b ∧ Below w.heap.size w w' := by
  go_enter Try.func69, Try.ntmps69
  by_cases hb : 65536 < s.size
  · go_wp2
    refine ret_spot rfl w.heap.size _ _ _ _ rfl (heap_alloc_new _ _) rfl ?_
    exact ⟨_, [], 3, 65536, rfl, Nums.nil_mk _ _ _ (Nat.zero_le _), .inl ⟨hb, rfl, rfl, rfl⟩, below_alloc _ _⟩
  · have hs : s.size ≤ 65536 := by omega
    clear hb hw
    go_wp2_with fail
    refine (fault_any s _ hs).mono ?_
    rintro e w1 ⟨rfl, ⟨i, hi, hg, hbad, rfl⟩ | ⟨hg, rfl⟩⟩
    · have HG := hide hg
      have HB := hide hbad
      clear hg hbad
      go_wp2
      refine ret_spot rfl w.heap.size _ _ _ _ rfl (heap_alloc_new _ _) rfl ?_
      exact ⟨_, [], 6, i, rfl, Nums.nil_mk _ _ _ (Nat.zero_le _), .inr (.inr (.inl ⟨hs, i, hi, HG.out, HB.out, rfl, rfl, rfl⟩)), below_alloc _ _⟩
    · by_cases h0 : s.size = 0
      · clear hg
        rw [h0]
        go_wp2
        refine ret_spot rfl w.heap.size _ _ _ _ rfl (heap_alloc_new _ _) rfl ?_
        exact ⟨_, [], 6, 0, rfl, Nums.nil_mk _ _ _ (Nat.zero_le _), .inr (.inl ⟨h0, rfl, rfl, rfl⟩), below_alloc _ _⟩
      · have HG := hide hg
        have hp : 0 < s.size := by omega
        clear hg h0
        go_wp2
        go_loopw [6, 7, 24] (fun nv' gv iv wr => ∃ k N g : Nat, k ≤ s.size ∧ iv = .int .i64 k ∧ gv = .int .u32 g ∧ ReadAt s k N g ∧ Own wr (w.heap.size + 1) nv' (lim N) ∧ Below (w.heap.size + 1) (w.alloc (.cells #[.int .i64 0, .int .i64 0] 30)) wr) (fun _ _ iv _ => s.size - (intOf iv).toNat)
        case atStart => exact ⟨0, 0, 0, Nat.zero_le _, rfl, rfl, ReadAt.start s, by rw [lim_zero]; exact World.ownsRow_nil _ _ _ _, Below.refl _ _⟩
        case round =>
          obtain ⟨k, N, g, hk, rfl, rfl, hat, hO, hbel⟩ := hrel
          have HAT := hide hat
          have HOW := hide hO
          have HBE := hide hbel
          clear hat hO hbel
          by_cases hlt : k < s.size
          · have hb := bt_get s k hlt
            have hf := HG.out k hlt
            obtain ⟨d, hd⟩ : ∃ d, bt s k = 48 + d := ⟨bt s k - 48, by have := hf.lo; omega⟩
            have h9 : d ≤ 9 := by have := hf.hi; omega
            rw [hd] at hb
            have HD := hide hd
            have hgs := HAT.out.small
            clear hf hd
            by_cases hm : (s.size - 1 - k) % 9 = 0
            · have hmI : ((s.size : Int) - 1 - (k : Int)) % 9 = 0 := by omega
              have HM := hide hm
              clear hm
              have hlen := nv_len s k N (fun j hj => HG.out j (by omega)) HAT.out.le
              go_wp2_with fail
              have hT := fun v W h1 h2 => timesAnd_any v (lim N) 1000000000 (g * 10 + d) (w.heap.size + 1) W h1 (ok_lim _) (by decide) (by omega) (by omega) h2
              rw [show ((1000000000 : Nat) : Int) = 1000000000 from rfl, show ((g * 10 + d : Nat) : Int) = (g : Int) * 10 + (d : Int) from by omega] at hT
              rw [show (48 + (d : Int) - 48) = (d : Int) from by omega]
              refine (hT _ _ HOW.out (by have := HBE.out.size; simpa using this)).mono ?_
              rintro e w2 ⟨v', rfl, hO2, hb2⟩
              rw [val_lim] at hO2
              have HO2 := hide hO2
              have HB2 := hide (HBE.out.trans hb2)
              clear hO2 hb2
              go_wp2
              go_roundw
              case rel => exact ⟨k + 1, _, 0, by omega, by go_num, rfl, HAT.out.take hlt HD.out h9 HM.out, HO2.out, HB2.out⟩
              case measure => simp [intOf]; omega
            · have hmI : (((s.size : Int) - 1 - (k : Int)) % 9 == 0) = false := by simp; omega
              have HM := hide hm
              clear hm
              go_wp2
              go_roundw
              case rel => exact ⟨k + 1, N, g * 10 + d, by omega, by go_num, by go_num, HAT.out.go hlt HD.out h9 HM.out, HOW.out, HBE.out⟩
              case measure => simp [intOf]; omega
          · have e : k = s.size := by omega
            subst e
            have HX := hide ((Box2.new w _ _ _).below HBE.out (Nat.lt_succ_self _))
            have hc0 := HX.out.cell0
            have hc1 := HX.out.cell1
            have hf0 := HX.out.free 0
            have hf1 := HX.out.free 1
            go_wp2
            refine ret_spot rfl w.heap.size _ _ _ _ rfl ((HX.out.set0 _).set1 _) rfl ?_
            exact ⟨_, _, 0, 0, rfl, (HOW.out.set2 (Nat.lt_succ_self _) _ _).nums (ok_lim _), .inr (.inr (.inr ⟨hs, hp, HG.out, by rw [HAT.out.end], rfl, rfl⟩)), (((below_alloc w _).trans (HBE.out.mono (Nat.le_succ _))).setCell (p := ⟨w.heap.size, 0, none⟩) (Nat.le_refl _) _).setCell (p := ⟨w.heap.size, 1, none⟩) (Nat.le_refl _) _⟩
end Go.Proofs.Ytgkibmigbjjnnaa
