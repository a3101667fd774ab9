/- The document's state of layer 14: lists of one's own; Begin, Holder. -/
import Derived.Test.YtclopelniopjkaaShBg
import Derived.Test.YtclopelniopjkaaShSh
namespace Go.Proofs.Ytclopelniopjkaa
open Go.RowKit

def kyC (x : K4 × Int × Int) : List Value := [.int .i64 x.1.1, .int .i64 x.1.2.1, .int .i64 (if twoB x.1.1 = true then x.1.2.2.1 else -1), .int .i64 x.1.2.2.2, .int .i64 x.2.2, .int .i64 x.2.1]
def kyCells : List (K4 × Int × Int) → List Value
  | [] => []
  | x :: l => kyC x ++ kyCells l
theorem kyCells_length (l : List (K4 × Int × Int)) : (kyCells l).length = l.length * 6 := by
  induction l with
  | nil => rfl
  | cons x l ih => simp only [kyCells, kyC, List.length_append, List.length_cons, List.length_nil, ih]; omega
theorem kyCells_append (l m : List (K4 × Int × Int)) : kyCells (l ++ m) = kyCells l ++ kyCells m := by
  induction l with
  | nil => rfl
  | cons x l ih => simp only [kyCells, List.cons_append, ih, List.append_assoc]
theorem kyCells_get (l : List (K4 × Int × Int)) : ∀ k (hk : k < l.length) r, r < 6 → (kyCells l)[k * 6 + r]? = (kyC l[k])[r]? := by
  induction l with
  | nil => intro k h; simp at h
  | cons x l ih =>
    intro k h r hr
    cases k with
    | zero =>
      simp only [kyCells, Nat.zero_mul, Nat.zero_add, List.getElem_cons_zero]
      rw [List.getElem?_append_left (by simp [kyC]; omega)]
    | succ k =>
      simp only [kyCells, List.getElem_cons_succ]
      rw [List.getElem?_append_right (by simp [kyC]; omega)]
      have := ih k (by simpa using h) r hr
      rw [← this]
      congr 1
      simp [kyC]
      omega
theorem ky_one (l : List (K4 × Int × Int)) : ∀ u ∈ kyCells l, u.oneCell' = true := by
  induction l with
  | nil => intro u h; simp [kyCells] at h
  | cons x l ih =>
    intro u h
    rcases List.mem_append.1 h with h | h
    · simp [kyC] at h
      rcases h with rfl | rfl | rfl | rfl | rfl | rfl <;> rfl
    · exact ih u h
abbrev OwnK (w : World) (base : Nat) (v : Value) (l : List (K4 × Int × Int)) : Prop := w.ownsRow base 65 6 v l.length (kyCells l)
theorem own_block_ne {w : World} {base : Nat} {e t : TypeId} {size n b : Nat} {v : Value} {xs : List Value} {c : Array Value} {f : Nat × Nat} (h : w.ownsRow base e size v n xs) (hb : w.heap[b]? = some (.cells c t f)) (hne : e ≠ t) : v.ownBlock ≠ some b := by
  rcases h.2 with ⟨rfl, _⟩ | ⟨g, cap, cur, rfl, _, hh, _⟩
  · simp [Value.ownBlock]
  · intro h
    have e1 : g = b := by simpa [Value.ownBlock] using h
    subst e1
    exact hne (cells_type hh hb)
theorem OwnK.at {w : World} {base : Nat} {a : Option Addr} {n cap : Nat} {l : List (K4 × Int × Int)} (h : OwnK w base (.slice a n cap) l) {k : Nat} (hk : k < l.length) :
    ∃ g, a = some ⟨g, 0, none⟩ ∧ ∀ r u, (kyC l[k])[r]? = some u → w.cell? ⟨g, k * 6 + r, none⟩ = some u := by
  rcases h.2 with ⟨h0, h1⟩ | ⟨g, cap', cur, h0, _⟩
  · omega
  · simp only [Value.slice.injEq] at h0
    obtain ⟨rfl, rfl, rfl⟩ := h0
    refine ⟨g, rfl, fun r u hu => ?_⟩
    have hr : r < 6 := by
      have := (List.getElem?_eq_some_iff.1 hu).1
      simpa [kyC] using this
    have hc := h.cells (g := g) rfl (k * 6 + r) u (by rw [kyCells_get l k hk r hr]; exact hu)
    have hadd : ∀ j, (⟨g, 0, none⟩ : Addr).add j = ⟨g, 0 + j, none⟩ := fun j => by unfold Addr.add; split <;> simp_all
    rw [hadd, Nat.zero_add] at hc
    exact hc
theorem own_set_in {w : World} {base g n cap j : Nat} {l : List Int} (h : OwnO w base (.slice (some ⟨g, 0, none⟩) n cap) l) (x : Int) : OwnO (w.setCell ⟨g, j, none⟩ (.int .i64 x)) base (.slice (some ⟨g, 0, none⟩) n cap) (l.set j x) := by
  rcases h.2 with ⟨h0, _⟩ | ⟨g', cap', cur, h0, hg, hh, h1, h2, h3, h4⟩
  · cases h0
  · simp only [Value.slice.injEq, Option.some.injEq, Addr.mk.injEq, and_true] at h0
    obtain ⟨rfl, hn, rfl⟩ := h0
    refine ⟨by simp [intCells], .inr ⟨g, cap, cur.setIfInBounds j (.int .i64 x), ?_, hg, ?_, ?_, h2, by simpa using h3, ?_⟩⟩
    · rw [List.length_set, hn]
    · obtain ⟨hlt, hk⟩ := Array.getElem?_eq_some_iff.1 hh
      show (w.heap.modify g _)[g]? = _
      rw [Array.getElem?_eq_getElem (by rw [Array.size_modify]; exact hlt), Array.getElem_modify_self, hk]
      rfl
    · rw [List.length_set]; exact h1
    · rw [List.length_set]
      simp only [Nat.mul_one] at h4 ⊢
      simp only [Array.toList_setIfInBounds, intCells, List.map_set] at h4 ⊢
      rw [List.take_set, h4]
theorem OwnO.val {w : World} {base : Nat} {v : Value} {l : List Int} (h : OwnO w base v l) : ∃ a cap, v = .slice a l.length cap := own_slice h
theorem OwnO.atI {w : World} {base : Nat} {a : Option Addr} {n cap : Nat} {l : List Int} (h : OwnO w base (.slice a n cap) l) {k : Nat} (hk : k < l.length) : ∃ g, a = some ⟨g, 0, none⟩ ∧ w.cell? ⟨g, k, none⟩ = some (.int .i64 (ot l k)) ∧ w.frozen? ⟨g, k, none⟩ = false := by
  rcases h.2 with ⟨h0, h1⟩ | ⟨g, cap', cur, h0, _, hh, _⟩
  · omega
  · simp only [Value.slice.injEq] at h0
    obtain ⟨rfl, rfl, rfl⟩ := h0
    have hc := h.cells (g := g) rfl k _ (intCells_get l k hk)
    have hadd : ∀ j, (⟨g, 0, none⟩ : Addr).add j = ⟨g, 0 + j, none⟩ := fun j => by unfold Addr.add; split <;> simp_all
    rw [hadd, Nat.zero_add] at hc
    exact ⟨g, rfl, hc, by simp [World.frozen?, hh]⟩

/-- the document's state -/
structure StAt (w : World) (base S : Nat) (vh vk : Value) (s : ShS) : Prop where
  box : Box3 w S 43 vh vk (.int .i64 s.next)
  held : OwnO w base vh s.held
  keys : OwnK w base vk s.keys
  ge : base ≤ S
theorem StAt.below {w w' : World} {base S : Nat} {vh vk : Value} {s : ShS} (h : StAt w base S vh vk s) (hb : Below w.heap.size w w') : StAt w' base S vh vk s := ⟨h.box.step hb, own_below h.held hb, own_below h.keys hb, h.ge⟩
theorem StAt.drew {w : World} {base S : Nat} {vh vk : Value} {s : ShS} (h : StAt w base S vh vk s) : StAt w.drew base S vh vk s := ⟨h.box, h.held, h.keys, h.ge⟩
theorem StAt.pushHeld {w w' : World} {base S : Nat} {vh vk v' : Value} {s : ShS} {l : List Int} (h : StAt w base S vh vk s) (hg : w.grownBy w' vh.ownBlock) (ho : OwnO w' base v' l) : StAt (w'.setCell ⟨S, 0, none⟩ v') base S v' vk ⟨l, s.keys, s.next⟩ := by
  have n1 := own_block_ne h.held h.box (by decide)
  have hb : Box3 w' S _ _ _ _ := (hg.block S h.box.lt (fun e => n1 e.symm)).trans h.box
  have hk := World.ownsRow.kept h.keys hg (rows_ne h.keys h.held (by decide))
  exact ⟨hb.set0 _, own_set_ne ho (own_block_ne ho hb (by decide)) _, own_set_ne hk (own_block_ne hk hb (by decide)) _, h.ge⟩
theorem wp_appI (w : World) {o : Oper} {a : Act} {K : Act → World → Prop} {Q : Exit → Act → World → Prop} (s x : Operand)
    (ho : o.op = .call { callee := .builtin .append, args := #[s, x], argTypes := #[23, 23] }) (base : Nat) (v : Value) (k : List Int) (hs : a.eval s = v) (hown : OwnO w base v k)
    (u : Value) (y : Int) (hx : a.eval x = u) (hu : IntsAt w u [y]) (hlen : k.length + 1 ≤ 1000000) (hbase : base ≤ w.heap.size)
    (h : ∀ v' w', OwnO w' base v' (k ++ [y]) → w.grownBy w' v.ownBlock → K (a.put o.dst v') w') : o.wp Try.prog a w K Q := by
  obtain ⟨i0, hi, hz0, hz1, hz2⟩ := info_parts info_int
  obtain ⟨ad, cap, rfl, _, _, hne⟩ := id hu
  cases ad with
  | none => obtain ⟨b, off, he, _⟩ := hne (by simp); cases he
  | some ad =>
    refine wp_append_own w s x 23 ho base 3 i0 (.int .i64 0) 1 8 Try.underlying23 hi hz0 hz1 hz2 rfl (by decide) v _ _ hs hown ad [y].length cap (intCells [y]) hx hu.news.1 hu.news.2 (int_one [y]) (by unfold maxLen; simp only [List.length_singleton]; omega) (by simp only [List.length_singleton]; omega) hbase ?_
    intro v' w' ho' hg _
    exact h v' w' (by show w'.ownsRow base 3 1 v' (k ++ [y]).length (intCells (k ++ [y])); rw [List.length_append, intCells_append]; exact ho') hg
theorem info_keyr : (Try.prog.info? 65).map (fun i => (i.zero, i.size, i.bytes)) = some (some (.agg #[.int .i64 0, .int .i64 0, .int .i64 0, .int .i64 0, .int .i64 0, .int .i64 0]), 6, 48) := by kernel_rfl
theorem wp_appK (w : World) {o : Oper} {a : Act} {K : Act → World → Prop} {Q : Exit → Act → World → Prop} (s x : Operand)
    (ho : o.op = .call { callee := .builtin .append, args := #[s, x], argTypes := #[41, 41] }) (base : Nat) (v : Value) (k : List (K4 × Int × Int)) (hs : a.eval s = v) (hown : OwnK w base v k)
    (g cap : Nat) (y : K4 × Int × Int) (hx : a.eval x = .slice (some ⟨g, 0, none⟩) 1 cap) (hu : w.heap[g]? = some (.cells (kyC y).toArray 65 (0, 0))) (hlen : k.length + 1 ≤ 1000000) (hbase : base ≤ w.heap.size)
    (h : ∀ v' w', OwnK w' base v' (k ++ [y]) → w.grownBy w' v.ownBlock → K (a.put o.dst v') w') : o.wp Try.prog a w K Q := by
  obtain ⟨i0, hi, hz0, hz1, hz2⟩ := info_parts info_keyr
  refine wp_append_own w s x 41 ho base 65 i0 (.agg #[.int .i64 0, .int .i64 0, .int .i64 0, .int .i64 0, .int .i64 0, .int .i64 0]) 6 48 Try.underlying41 hi hz0 hz1 hz2 rfl (by decide) v _ _ hs hown ⟨g, 0, none⟩ 1 cap (kyCells [y]) hx rfl
    (fun j u hj => ?_) (ky_one [y]) (by unfold maxLen; omega) (by omega) hbase ?_
  · have hadd : (⟨g, 0, none⟩ : Addr).add j = ⟨g, 0 + j, none⟩ := by unfold Addr.add; split <;> simp_all
    rw [hadd, Nat.zero_add]
    have e : kyCells [y] = kyC y := by simp [kyCells]
    rw [e] at hj
    simp [World.cell?, hu, hj]
  · intro v' w' ho' hg _
    exact h v' w' (by show w'.ownsRow base 65 6 v' (k ++ [y]).length (kyCells (k ++ [y])); rw [List.length_append, kyCells_append]; exact ho') hg

end Go.Proofs.Ytclopelniopjkaa
