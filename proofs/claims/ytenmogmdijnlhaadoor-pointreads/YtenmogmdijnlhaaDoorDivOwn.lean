/- limb.divideOwn makes of a list that is its own the quotient by one limb, and tells the remainder. -/
import Derived.Test.YtenmogmdijnlhaaDoorMul
import Derived.Laws.Bits64b
namespace Go.Proofs.YtenmogmdijnlhaaDoor
open Go.RowKit

/-- an owned row with room behind its end -/
def RowC (w : World) (base g n cap : Nat) (xs : List Nat) : Prop := w.ownsRow base 87 1 (.slice (some ⟨g, 0, none⟩) n cap) n (ints xs)
theorem RowC.cell {w : World} {base g n cap : Nat} {xs : List Nat} (h : RowC w base g n cap xs) (hl : xs.length = n) (i : Nat) (hi : i < n) : w.cell? ⟨g, i, none⟩ = some (.int .u32 (lm xs i : Nat)) := by
  rw [World.ownsRow.cellAt h i (by omega), ints_get _ _ (by omega)]
theorem RowC.free {w : World} {base g n cap : Nat} {xs : List Nat} (h : RowC w base g n cap xs) (i : Nat) : w.frozen? ⟨g, i, none⟩ = false := World.ownsRow.frozenAt h i
theorem RowC.set {w : World} {base g n cap : Nat} {xs : List Nat} (h : RowC w base g n cap xs) (i x : Nat) : RowC (w.setCell ⟨g, i, none⟩ (.int .u32 (x : Nat))) base g n cap (xs.set i x) := by
  have := (World.ownsRow.stored h i (.int .u32 (x : Nat))).1
  rw [ints_set] at this; exact this
theorem RowC.nums {w : World} {base g n cap : Nat} {xs : List Nat} (h : RowC w base g n cap xs) (hl : xs.length = n) (ho : Ok xs) : Nums w (.slice (some ⟨g, 0, none⟩) n cap) xs := nums_of_row ho hl h
theorem RowC.ge {w : World} {base g n cap : Nat} {xs : List Nat} (h : RowC w base g n cap xs) : base ≤ g := (World.ownsRow.lt h g rfl).1

/-- what is owned, cut shorter -/
theorem Own.cut {w : World} {base : Nat} {v v' : Value} {xs : List Nat} (h : Own w base v xs) (k : Nat) (hk : k ≤ xs.length) (hc : Cut v v' k) : Own w base v' (xs.take k) := by
  obtain ⟨a, m, cap, rfl, rfl⟩ := hc
  have hl : (xs.take k).length = k := by rw [List.length_take]; omega
  unfold Own at *
  rcases h.2 with ⟨h', h0⟩ | ⟨g, cap', cur, h', hb, hg, hnc, hcm, hcs, ht⟩
  · have : xs = [] := List.eq_nil_of_length_eq_zero h0
    subst this
    simp only [Value.slice.injEq] at h'
    obtain ⟨rfl, _, rfl⟩ := h'
    have : k = 0 := by simpa using hk
    subst this
    exact World.ownsRow_nil _ _ _ _
  · simp only [Value.slice.injEq] at h'
    obtain ⟨rfl, rfl, rfl⟩ := h'
    refine ⟨by simp [ints], .inr ⟨g, cap, cur, by rw [hl], hb, hg, by omega, hcm, hcs, ?_⟩⟩
    rw [hl]
    have : ints (xs.take k) = (ints xs).take k := by simp [ints, List.map_take]
    rw [this, ← ht, List.take_take]
    congr 1; omega

/-- a division's state with k limbs to go -/
structure DivAt (xs : List Nat) (d k r : Nat) (qs : List Nat) : Prop where
  len : qs.length = xs.length - k
  ok : Ok qs
  r1 : r < d
  sum : val (xs.drop k) = d * val qs + r

theorem drop_val (xs : List Nat) (k : Nat) (h : k < xs.length) : val (xs.drop k) = lm xs k + BB * val (xs.drop (k + 1)) := by
  rw [List.drop_eq_getElem_cons h, lm_get _ _ h]; simp [val]

theorem DivAt.start (xs : List Nat) (d : Nat) (hd : 0 < d) : DivAt xs d xs.length 0 [] := ⟨by simp, Ok.nil, hd, by simp [val]⟩

theorem quo_lt {r x d : Nat} (hd : 0 < d) (hr : r < d) (hx : x < BB) : (r * BB + x) / d < BB := by
  rw [Nat.div_lt_iff_lt_mul hd]
  have h1 : (r + 1) * BB ≤ d * BB := Nat.mul_le_mul_right _ hr
  rw [Nat.add_mul, Nat.one_mul] at h1
  rw [Nat.mul_comm BB d]
  omega

theorem DivAt.step {xs : List Nat} {d k r : Nat} {qs : List Nat} (h : DivAt xs d (k + 1) r qs) (hx : Ok xs) (hk : k < xs.length) :
    DivAt xs d k ((r * BB + lm xs k) % d) ((r * BB + lm xs k) / d :: qs) := by
  have hr := h.r1
  have hd : 0 < d := by omega
  refine ⟨by simp [h.len]; omega, Ok.cons (quo_lt hd hr (hx.at k)) h.ok, Nat.mod_lt _ hd, ?_⟩
  rw [drop_val xs k hk, h.sum]
  simp only [val]
  have e := Nat.div_add_mod (r * BB + lm xs k) d
  have e1 : BB * (d * val qs + r) = BB * (d * val qs) + r * BB := by rw [Nat.mul_add, Nat.mul_comm BB r]
  have e2 : d * ((r * BB + lm xs k) / d + BB * val qs) = d * ((r * BB + lm xs k) / d) + BB * (d * val qs) := by rw [Nat.mul_add, Nat.mul_left_comm]
  omega

theorem take_set_drop (xs qs : List Nat) (k q : Nat) (hk : k < xs.length) : (xs.take (k + 1) ++ qs).set k q = xs.take k ++ (q :: qs) := by
  have e : xs.take (k + 1) = xs.take k ++ [xs[k]] := List.take_succ_eq_append_getElem hk
  rw [e, List.append_assoc]
  have hl : (xs.take k).length = k := by rw [List.length_take]; omega
  have := List.set_append_right (s := xs.take k) (t := [xs[k]] ++ qs) (i := k) (x := q) (by omega)
  rw [this, hl, Nat.sub_self]; rfl

theorem Cut.block {v v' : Value} {n : Nat} (h : Cut v v' n) : v'.ownBlock = v.ownBlock := by
  obtain ⟨a, m, cap, rfl, rfl⟩ := h; cases a <;> rfl

end Go.Proofs.YtenmogmdijnlhaaDoor
