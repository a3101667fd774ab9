/- The document's places (swageref16): lists of structs of two numbers, and where a value stands. -/
import Derived.Test.YtheakienigmkhaaOrUn
import Derived.Test.YtheakienigmkhaaPgApp
namespace Go.Proofs.Ytheakienigmkhaa
open Go.RowKit

def plC (x : Int × Int) : List Value := [.int .i64 x.1, .int .i64 x.2]
def plCells : List (Int × Int) → List Value
  | [] => []
  | x :: l => plC x ++ plCells l
theorem plCells_length (l : List (Int × Int)) : (plCells l).length = l.length * 2 := by
  induction l with
  | nil => rfl
  | cons x l ih => simp only [plCells, plC, List.length_append, List.length_cons, List.length_nil, ih]; omega
theorem plCells_append (l m : List (Int × Int)) : plCells (l ++ m) = plCells l ++ plCells m := by
  induction l with
  | nil => rfl
  | cons x l ih => simp only [plCells, List.cons_append, ih, List.append_assoc]
theorem plCells_get (l : List (Int × Int)) : ∀ k (hk : k < l.length) r, r < 2 → (plCells l)[k * 2 + r]? = (plC l[k])[r]? := by
  induction l with
  | nil => intro k h; simp at h
  | cons x l ih =>
    intro k h r hr
    cases k with
    | zero =>
      simp only [plCells, Nat.zero_mul, Nat.zero_add, List.getElem_cons_zero]
      rw [List.getElem?_append_left (by simp [plC]; omega)]
    | succ k =>
      simp only [plCells, List.getElem_cons_succ]
      rw [List.getElem?_append_right (by simp [plC]; omega)]
      have := ih k (by simpa using h) r hr
      rw [← this]
      congr 1
      simp [plC]
      omega
theorem pl_one (l : List (Int × Int)) : ∀ u ∈ plCells l, u.oneCell' = true := by
  induction l with
  | nil => intro u h; simp [plCells] at h
  | cons x l ih =>
    intro u h
    rcases List.mem_append.1 h with h | h
    · simp [plC] at h
      rcases h with rfl | rfl <;> rfl
    · exact ih u h
abbrev OwnPl (w : World) (base : Nat) (v : Value) (l : List (Int × Int)) : Prop := w.ownsRow base 77 2 v l.length (plCells l)
theorem OwnPl.at {w : World} {base : Nat} {a : Option Addr} {n cap : Nat} {l : List (Int × Int)} (h : OwnPl w base (.slice a n cap) l) {k : Nat} (hk : k < l.length) :
    ∃ g, a = some ⟨g, 0, none⟩ ∧ w.cell? ⟨g, k * 2, none⟩ = some (.int .i64 l[k].1) ∧ w.cell? ⟨g, k * 2 + 1, none⟩ = some (.int .i64 l[k].2) := by
  rcases h.2 with ⟨h0, h1⟩ | ⟨g, cap', cur, h0, _⟩
  · omega
  · simp only [Value.slice.injEq] at h0
    obtain ⟨rfl, rfl, rfl⟩ := h0
    have hadd : ∀ j, (⟨g, 0, none⟩ : Addr).add j = ⟨g, 0 + j, none⟩ := fun j => by unfold Addr.add; split <;> simp_all
    have c := fun r (u : Value) (hr : r < 2) (hu : (plC l[k])[r]? = some u) => h.cells (g := g) rfl (k * 2 + r) u (by rw [plCells_get l k hk r hr]; exact hu)
    have c0 := c 0 _ (by omega) rfl
    have c1 := c 1 _ (by omega) rfl
    rw [hadd, Nat.zero_add] at c0 c1
    exact ⟨g, rfl, c0, c1⟩
theorem info_pl : (Try.prog.info? 77).map (fun i => (i.zero, i.size, i.bytes)) = some (some (.agg #[.int .i64 0, .int .i64 0]), 2, 16) := by kernel_rfl
theorem wp_appPl (w : World) {o : Oper} {a : Act} {K : Act → World → Prop} {Q : Exit → Act → World → Prop} (s x : Operand)
    (ho : o.op = .call { callee := .builtin .append, args := #[s, x], argTypes := #[74, 74] }) (base : Nat) (v : Value) (k : List (Int × Int)) (hs : a.eval s = v) (hown : OwnPl w base v k)
    (g cap : Nat) (y : Int × Int) (hx : a.eval x = .slice (some ⟨g, 0, none⟩) 1 cap) (hu : w.heap[g]? = some (.cells (plC y).toArray 77 (0, 0))) (hlen : k.length + 1 ≤ 1000000) (hbase : base ≤ w.heap.size)
    (h : ∀ v' w', OwnPl w' base v' (k ++ [y]) → w.grownBy w' v.ownBlock → K (a.put o.dst v') w') : o.wp Try.prog a w K Q := by
  obtain ⟨i0, hi, hz0, hz1, hz2⟩ := info_parts info_pl
  refine wp_append_own w s x 74 ho base 77 i0 (.agg #[.int .i64 0, .int .i64 0]) 2 16 Try.underlying74 hi hz0 hz1 hz2 rfl (by decide) v _ _ hs hown ⟨g, 0, none⟩ 1 cap (plCells [y]) hx rfl
    (fun j u hj => ?_) (pl_one [y]) (by unfold maxLen; omega) (by omega) hbase ?_
  · have hadd : (⟨g, 0, none⟩ : Addr).add j = ⟨g, 0 + j, none⟩ := by unfold Addr.add; split <;> simp_all
    rw [hadd, Nat.zero_add]
    have e : plCells [y] = plC y := by simp [plCells]
    rw [e] at hj
    simp [World.cell?, hu, hj]
  · intro v' w' ho' hg _
    exact h v' w' (by show w'.ownsRow base 77 2 v' (k ++ [y]).length (plCells (k ++ [y])); rw [List.length_append, plCells_append]; exact ho') hg


theorem OwnPl.below {w w' : World} {base : Nat} {v : Value} {l : List (Int × Int)} (h : OwnPl w base v l) (hb : Below w.heap.size w w') : OwnPl w' base v l := by
  obtain ⟨hl, h1⟩ := h
  refine ⟨hl, ?_⟩
  rcases h1 with h0 | ⟨g, cap, cur, rfl, hg, hh, r⟩
  · exact .inl h0
  · exact .inr ⟨g, cap, cur, rfl, hg, by rw [hb.block g (Array.getElem?_eq_some_iff.1 hh).1]; exact hh, r⟩
theorem OwnPl.nil (w : World) (base : Nat) : OwnPl w base (.slice none 0 0) [] := World.ownsRow_nil _ _ _ _
theorem OwnPl.at' {w : World} {base : Nat} {a : Option Addr} {n cap : Nat} {l : List (Int × Int)} (h : OwnPl w base (.slice a n cap) l) {k : Nat} (hk : k < l.length) :
    ∃ g, a = some ⟨g, 0, none⟩ ∧ w.cell? ⟨g, k * 2, none⟩ = some (.int .i64 (l.getD k (0, 0)).1) ∧ w.cell? ⟨g, k * 2 + 1, none⟩ = some (.int .i64 (l.getD k (0, 0)).2) := by
  have e : l.getD k (0, 0) = l[k] := by rw [List.getD_eq_getElem?_getD, List.getElem?_eq_getElem hk]; rfl
  rw [e]; exact h.at hk
theorem whereF_cons (y : Int × Int) (L : List (Int × Int)) (x : Int) : whereF (y :: L) x = if y.1 = x then y.2 else whereF L x := by
  unfold whereF
  rw [List.find?_cons]
  by_cases h : y.1 = x <;> simp [h]
theorem drop_cons {L : List (Int × Int)} {k : Nat} (h : k < L.length) : L.drop k = L.getD k (0, 0) :: L.drop (k + 1) := by
  rw [List.drop_eq_getElem_cons h, List.getD_eq_getElem?_getD, List.getElem?_eq_getElem h]; rfl
set_option maxRecDepth 100000 in
set_option maxHeartbeats 8000000 in
theorem where_any (base : Nat) (v : Value) (L : List (Int × Int)) (w : World) (h : OwnPl w base v L) (hl : L.length ≤ 100000) (x : Int) :
    Calls Try.prog 38 #[v, .int .i64 x] w fun e w' => e = .returned (.int .i64 (whereF L x)) ∧ w' = w := by
  obtain ⟨a, cap, rfl⟩ := own_slice h
  have OP := hide h
  have HL := hide hl
  clear h hl
  go_enter Try.func38, Try.ntmps38
  go_wp2
  go_loopw [4, 5] (fun _ kv wr => ∃ k : Nat, k ≤ L.length ∧ kv = .int .i64 (k : Nat) ∧ wr = w ∧ whereF L x = whereF (L.drop k) x) (fun _ kv _ => L.length - (intOf kv).toNat)
  case atStart => exact ⟨0, Nat.zero_le _, rfl, rfl, rfl⟩
  case round =>
    obtain ⟨k, hk, rfl, rfl, he⟩ := hrel
    have HE := hide he
    clear he
    have hl := HL.out
    by_cases hlt : k < L.length
    · obtain ⟨g, rfl, k0, k1⟩ := OP.out.at' hlt
      have EW : Hid (whereF L x = if (L.getD k (0, 0)).1 = x then (L.getD k (0, 0)).2 else whereF (L.drop (k + 1)) x) := hide (by rw [HE.out, drop_cons hlt, whereF_cons])
      generalize L.getD k (0, 0) = y at *
      obtain ⟨y0, y1⟩ := y
      dsimp only at k0 k1
      by_cases hq : y0 = x
      · have er : whereF L x = y1 := by rw [EW.out]; exact if_pos hq
        subst hq
        have ER := hide er
        clear er
        go_wp2
        go_ret
        exact ⟨by rw [ER.out]; try rfl, rfl⟩
      · have er : whereF L x = whereF (L.drop (k + 1)) x := by rw [EW.out]; exact if_neg hq
        have ER := hide er
        clear er
        have hq2 : (y0 == x) = false := by simpa using hq
        go_wp2
        go_roundw
        case rel => exact ⟨k + 1, by omega, by go_num, by first | trivial | rfl, ER.out⟩
        case measure => simp [intOf]; omega
    · have e : k = L.length := by omega
      have er : whereF L x = -1 := by rw [HE.out, e, List.drop_length]; rfl
      subst e
      have ER := hide er
      clear er
      go_wp2
      go_ret
      exact ⟨by rw [ER.out]; try rfl, rfl⟩
end Go.Proofs.Ytheakienigmkhaa
