/- limb.divideOwn makes of a list that is its own the quotient by one limb, and tells the remainder. -/
import Derived.Test.YtgkibmigbjjnnaaMul
import Derived.Laws.Bits64b
namespace Go.Proofs.Ytgkibmigbjjnnaa
open Go.RowKit

theorem lim_prefix {xs : List Nat} (h : Ok xs) : xs.take (lim (val xs)).length = lim (val xs) := by
  induction xs with
  | nil => rfl
  | cons x xs ih =>
    have h1 := h.head
    by_cases h0 : val (x :: xs) = 0
    · rw [h0, lim_zero]; rfl
    · have hm : val (x :: xs) % BB = x := by simp only [val]; rw [Nat.add_mul_mod_self_left]; exact Nat.mod_eq_of_lt h1
      have hd : val (x :: xs) / BB = val xs := by simp only [val]; rw [Nat.add_mul_div_left _ _ BB_pos, Nat.div_eq_of_lt h1, Nat.zero_add]
      rw [lim_pos (by omega), hm, hd, List.length_cons, List.take_succ_cons, ih h.tail]

/-- an owned row with room behind its end -/
def RowC (w : World) (base g n cap : Nat) (xs : List Nat) : Prop := w.ownsRow base 84 1 (.slice (some ⟨g, 0, none⟩) n cap) n (ints xs)
theorem RowC.cell {w : World} {base g n cap : Nat} {xs : List Nat} (h : RowC w base g n cap xs) (hl : xs.length = n) (i : Nat) (hi : i < n) : w.cell? ⟨g, i, none⟩ = some (.int .u32 (lm xs i : Nat)) := by
  rw [World.ownsRow.cellAt h i (by omega), ints_get _ _ (by omega)]
theorem RowC.free {w : World} {base g n cap : Nat} {xs : List Nat} (h : RowC w base g n cap xs) (i : Nat) : w.frozen? ⟨g, i, none⟩ = false := World.ownsRow.frozenAt h i
theorem RowC.set {w : World} {base g n cap : Nat} {xs : List Nat} (h : RowC w base g n cap xs) (i x : Nat) : RowC (w.setCell ⟨g, i, none⟩ (.int .u32 (x : Nat))) base g n cap (xs.set i x) := by
  have := (World.ownsRow.stored h i (.int .u32 (x : Nat))).1
  rw [ints_set] at this; exact this
theorem RowC.nums {w : World} {base g n cap : Nat} {xs : List Nat} (h : RowC w base g n cap xs) (hl : xs.length = n) (ho : Ok xs) : Nums w (.slice (some ⟨g, 0, none⟩) n cap) xs := nums_of_row ho hl h
theorem RowC.ge {w : World} {base g n cap : Nat} {xs : List Nat} (h : RowC w base g n cap xs) : base ≤ g := (World.ownsRow.lt h g rfl).1

/-- what is owned, cut shorter -/
theorem Own.cut {w : World} {base : Nat} {v v' : Value} {xs : List Nat} (h : Own w base v xs) (k : Nat) (hk : k ≤ xs.length) (hc : Cut v v' k) : Own w base v' (xs.take k) := by
  obtain ⟨a, m, cap, rfl, rfl⟩ := hc
  have hl : (xs.take k).length = k := by rw [List.length_take]; omega
  unfold Own at *
  rcases h.2 with ⟨h', h0⟩ | ⟨g, cap', cur, h', hb, hg, hnc, hcm, hcs, ht⟩
  · have : xs = [] := List.eq_nil_of_length_eq_zero h0
    subst this
    simp only [Value.slice.injEq] at h'
    obtain ⟨rfl, _, rfl⟩ := h'
    have : k = 0 := by simpa using hk
    subst this
    exact World.ownsRow_nil _ _ _ _
  · simp only [Value.slice.injEq] at h'
    obtain ⟨rfl, rfl, rfl⟩ := h'
    refine ⟨by simp [ints], .inr ⟨g, cap, cur, by rw [hl], hb, hg, by omega, hcm, hcs, ?_⟩⟩
    rw [hl]
    have : ints (xs.take k) = (ints xs).take k := by simp [ints, List.map_take]
    rw [this, ← ht, List.take_take]
    congr 1; omega

/-- a division's state with k limbs to go -/
structure DivAt (xs : List Nat) (d k r : Nat) (qs : List Nat) : Prop where
  len : qs.length = xs.length - k
  ok : Ok qs
  r1 : r < d
  sum : val (xs.drop k) = d * val qs + r

theorem drop_val (xs : List Nat) (k : Nat) (h : k < xs.length) : val (xs.drop k) = lm xs k + BB * val (xs.drop (k + 1)) := by
  rw [List.drop_eq_getElem_cons h, lm_get _ _ h]; simp [val]

theorem DivAt.start (xs : List Nat) (d : Nat) (hd : 0 < d) : DivAt xs d xs.length 0 [] := ⟨by simp, Ok.nil, hd, by simp [val]⟩

theorem quo_lt {r x d : Nat} (hd : 0 < d) (hr : r < d) (hx : x < BB) : (r * BB + x) / d < BB := by
  rw [Nat.div_lt_iff_lt_mul hd]
  have h1 : (r + 1) * BB ≤ d * BB := Nat.mul_le_mul_right _ hr
  rw [Nat.add_mul, Nat.one_mul] at h1
  rw [Nat.mul_comm BB d]
  omega

theorem DivAt.step {xs : List Nat} {d k r : Nat} {qs : List Nat} (h : DivAt xs d (k + 1) r qs) (hx : Ok xs) (hk : k < xs.length) :
    DivAt xs d k ((r * BB + lm xs k) % d) ((r * BB + lm xs k) / d :: qs) := by
  have hr := h.r1
  have hd : 0 < d := by omega
  refine ⟨by simp [h.len]; omega, Ok.cons (quo_lt hd hr (hx.at k)) h.ok, Nat.mod_lt _ hd, ?_⟩
  rw [drop_val xs k hk, h.sum]
  simp only [val]
  have e := Nat.div_add_mod (r * BB + lm xs k) d
  have e1 : BB * (d * val qs + r) = BB * (d * val qs) + r * BB := by rw [Nat.mul_add, Nat.mul_comm BB r]
  have e2 : d * ((r * BB + lm xs k) / d + BB * val qs) = d * ((r * BB + lm xs k) / d) + BB * (d * val qs) := by rw [Nat.mul_add, Nat.mul_left_comm]
  omega

theorem take_set_drop (xs qs : List Nat) (k q : Nat) (hk : k < xs.length) : (xs.take (k + 1) ++ qs).set k q = xs.take k ++ (q :: qs) := by
  have e : xs.take (k + 1) = xs.take k ++ [xs[k]] := List.take_succ_eq_append_getElem hk
  rw [e, List.append_assoc]
  have hl : (xs.take k).length = k := by rw [List.length_take]; omega
  have := List.set_append_right (s := xs.take k) (t := [xs[k]] ++ qs) (i := k) (x := q) (by omega)
  rw [this, hl, Nat.sub_self]; rfl

theorem lm_append_left (xs ys : List Nat) (i : Nat) (h : i < xs.length) : lm (xs ++ ys) i = lm xs i := by
  simp [lm, List.getElem?_append_left h]

theorem or_word (r x : Nat) (hr : r < 4294967296) (hx : x < 4294967296) : bits .or .u64 ((r : Int) * 4294967296) (x : Int) = ((r * BB + x : Nat) : Int) := by
  have := bits_or_u64_nat (r * 4294967296) x (by omega) (by omega)
  rw [show ((r * 4294967296 : Nat) : Int) = (r : Int) * 4294967296 from by rw [Int.natCast_mul]; rfl] at this
  rw [this]
  have e : r * 4294967296 ||| x = r * 4294967296 + x := by
    have := Nat.two_pow_add_eq_or_of_lt (i := 32) (b := x) (by omega) r
    rw [show (2 : Nat) ^ 32 = 4294967296 from by decide, Nat.mul_comm 4294967296 r] at this
    exact this.symm
  rw [e]; rfl

theorem gb_set {w wr : World} {g : Nat} (h : w.grownBy wr (some g)) (k : Nat) (u : Value) : w.grownBy (wr.setCell ⟨g, k, none⟩ u) (some g) :=
  ⟨h.os, h.tape, h.output, by have := h.size; simpa [World.setCell] using this, fun j hj hne => (Below.heap_setCell wr ⟨g, k, none⟩ u j (fun e => hne (by simp [e]))).trans (h.block j hj hne)⟩

theorem Cut.block {v v' : Value} {n : Nat} (h : Cut v v' n) : v'.ownBlock = v.ownBlock := by
  obtain ⟨a, m, cap, rfl, rfl⟩ := h; cases a <;> rfl

theorem div_next {w wr : World} {base g d k r cap : Nat} {xs qs : List Nat} {s : Int} (hat : DivAt xs d (k + 1) r qs) (hx : Ok xs) (hk : k < xs.length)
    (hrow : RowC wr base g xs.length cap (xs.take (k + 1) ++ qs)) (hbel : Below base w wr ∧ w.grownBy wr (some g)) (hs : s = ((r * BB + lm xs k : Nat) : Int)) :
    ∃ (k' r' : Nat) (qs' : List Nat), k' ≤ xs.length ∧ Value.int .i64 (↑k - 1) = .int .i64 ((k' : Int) - 1) ∧ Value.int .u64 (s % ↑d) = .int .u64 r' ∧ DivAt xs d k' r' qs' ∧
      RowC (wr.setCell ⟨g, k, none⟩ (.int .u32 (s / ↑d % 4294967296))) base g xs.length cap (xs.take k' ++ qs') ∧ Below base w (wr.setCell ⟨g, k, none⟩ (.int .u32 (s / ↑d % 4294967296))) ∧ w.grownBy (wr.setCell ⟨g, k, none⟩ (.int .u32 (s / ↑d % 4294967296))) (some g) := by
  have hq : (r * BB + lm xs k) / d < BB := quo_lt (by have := hat.r1; omega) hat.r1 (hx.at k)
  have e1 : s % (d : Int) = (((r * BB + lm xs k) % d : Nat) : Int) := by rw [hs, Int.natCast_emod]
  have e2 : s / (d : Int) % 4294967296 = (((r * BB + lm xs k) / d : Nat) : Int) := by
    rw [hs, ← Int.natCast_ediv]; generalize (r * BB + lm xs k) / d = q at hq ⊢; unfold BB at hq; omega
  refine ⟨k, _, _, by omega, rfl, by rw [e1], hat.step hx hk, ?_, hbel.1.setCell hrow.ge _, gb_set hbel.2 _ _⟩
  rw [e2]
  have := hrow.set k ((r * BB + lm xs k) / d)
  rw [take_set_drop xs qs k _ hk] at this
  exact this

theorem div_end {xs qs : List Nat} {d r : Nat} (hat : DivAt xs d 0 r qs) : val qs = val xs / d ∧ val xs % d = r := by
  have h := hat.sum
  have hr := hat.r1
  simp only [List.drop_zero] at h
  rw [h]
  constructor
  · rw [Nat.mul_add_div (by omega), Nat.div_eq_of_lt hr, Nat.add_zero]
  · rw [Nat.mul_add_mod, Nat.mod_eq_of_lt hr]

set_option maxRecDepth 100000 in
set_option maxHeartbeats 1000000 in
theorem divideOwn_any (v : Value) (xs : List Nat) (d base : Nat) (w : World) (h : Own w base v xs) (ho : Ok xs) (hd : 0 < d) (hd2 : d < 4294967296) :
    Calls Try.prog 100 #[v, .int .u32 d] w fun e w' => ∃ v', e = .returned (.tuple #[v', .int .u32 (val xs % d : Nat)]) ∧ Own w' base v' (lim (val xs / d)) ∧ Below base w w' ∧ w.grownBy w' v.ownBlock ∧ v'.ownBlock = v.ownBlock := by
  rcases h.2 with ⟨rfl, h0⟩ | ⟨g, cap, cur, rfl, hbg, hg, hnc, hcm, hcs, ht⟩
  · have : xs = [] := List.eq_nil_of_length_eq_zero h0
    subst this
    clear h h0
    go_enter Try.func100, Try.ntmps100
    go_wp2
    refine wp_loop_rounds 1 ?_
    rw [rounds_succ]
    go_wp2_with fail
    refine (trim_any _ [] _ (Nums.nil_mk _ _ _ (Nat.zero_le _))).mono ?_
    rintro e w1 ⟨v1, rfl, rfl, hN1, hcut⟩
    obtain ⟨a, m, cap, he, rfl⟩ := hcut
    simp only [Value.slice.injEq] at he
    obtain ⟨rfl, rfl, rfl⟩ := he
    go_wp2
    go_ret2
    exact ⟨.slice none 0 0, by simp [val, lim_zero], by simp [val, lim_zero]; exact World.ownsRow_nil _ _ _ _, Below.refl _ _, World.grownBy.refl _ _, rfl⟩
  · have hrow : RowC w base g xs.length cap xs := h
    clear h hg hcs ht cur
    have HO := hide ho
    unfold maxLen at hcm
    go_enter Try.func100, Try.ntmps100
    go_wp2
    go_loopw [6, 7] (fun rv iv wr => ∃ (k r : Nat) (qs : List Nat), k ≤ xs.length ∧ iv = .int .i64 ((k : Int) - 1) ∧ rv = .int .u64 r ∧ DivAt xs d k r qs ∧ RowC wr base g xs.length cap (xs.take k ++ qs) ∧ Below base w wr ∧ w.grownBy wr (some g)) (fun _ iv _ => (intOf iv + 1).toNat)
    case atStart => exact ⟨xs.length, 0, [], Nat.le_refl _, by go_num, rfl, DivAt.start xs d hd, by simpa using hrow, Below.refl _ _, World.grownBy.refl _ _⟩
    case round =>
      clear hrow
      obtain ⟨k, r, qs, hk, rfl, rfl, hat, hrow, hbel⟩ := hrel
      have hr := hat.r1
      cases k with
      | zero =>
        obtain ⟨hq1, hq2⟩ := div_end hat
        have hlen : qs.length = xs.length := by rw [hat.len]; omega
        rw [List.take_zero, List.nil_append] at hrow
        have hown : Own wr base (.slice (some ⟨g, 0, none⟩) xs.length cap) qs := by unfold Own; rw [hlen]; exact hrow
        have HN := hide (hrow.nums hlen hat.ok)
        have HQ1 := hide hq1
        have HQ2 := hide hq2
        have HOW := hide hown
        have HBL := hide hbel
        have HOK := hide hat.ok
        clear hrow hat hbel hown hq1 hq2 hlen
        go_wp2_with fail
        refine (trim_any _ _ _ HN.out).mono ?_
        rintro e w2 ⟨v3, rfl, rfl, hN3, hcut⟩
        have HO2 := hide (HOW.out.cut _ (lim_val_length HOK.out) hcut)
        have HCB := hide hcut.block
        clear hN3 hcut
        go_wp2
        go_ret2
        refine ⟨v3, ?_, ?_, HBL.out.1, HBL.out.2, HCB.out⟩
        · rw [HQ2.out]
          have : ((r : Nat) : Int) % 4294967296 = r := by omega
          first | rfl | simp [this]
        · have := HO2.out
          rw [lim_prefix HOK.out, HQ1.out] at this
          exact this
      | succ k =>
        have hx := HO.out.at k
        have hor := or_word r (lm xs k) (by omega) hx
        have hf := hrow.free k
        have hcl := hrow.cell (by rw [List.length_append, List.length_take, hat.len]; omega) k (by omega)
        rw [lm_append_left _ _ _ (by rw [List.length_take]; omega), lm_take _ _ _ (by omega)] at hcl
        have HAT := hide hat
        have HR := hide hrow
        have HBL := hide hbel
        clear hat hrow hbel
        unfold BB at hx hor
        go_wp2
        refine ⟨div_next HAT.out HO.out (by omega) HR.out HBL.out (by unfold BB; omega), ?_⟩
        simp [intOf]
end Go.Proofs.Ytgkibmigbjjnnaa
