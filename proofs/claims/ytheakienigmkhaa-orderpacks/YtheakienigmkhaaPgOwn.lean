/- Lists of instructions and of registers in memory of one's own; slices.Clone. -/
import Derived.Test.YtheakienigmkhaaPgIn
import Derived.Laws.AppendOwn
import Derived.Laws.AppendOwnNone
import Derived.WalkKit
import Derived.Lib.SliceRun
namespace Go.Proofs.Ytheakienigmkhaa
open Go.RowKit

theorem Box4.free {W : World} {B : Nat} {t : TypeId} {x y z u : Value} (h : Box4 W B t x y z u) (o : Nat) : W.frozen? ⟨B, o, none⟩ = false := by simp [World.frozen?, show W.heap[B]? = _ from h]
theorem Box4.set_ne {W : World} {B C o : Nat} {t : TypeId} {x y z u : Value} (h : Box4 W B t x y z u) (hne : C ≠ B) (c : Value) : Box4 (W.setCell ⟨C, o, none⟩ c) B t x y z u := by
  show (W.heap.modify C _)[B]? = _
  rw [Array.getElem?_modify, if_neg hne]; exact h
theorem Box4.set {W : World} {B : Nat} {t : TypeId} {x y z u : Value} (h : Box4 W B t x y z u) (o : Nat) (c : Value) : (W.setCell ⟨B, o, none⟩ c).heap[B]? = some (.cells (#[x, y, z, u].setIfInBounds o c) t (0, 0)) := by
  obtain ⟨hlt, hk⟩ := Array.getElem?_eq_some_iff.1 h
  show (W.heap.modify B _)[B]? = _
  rw [Array.getElem?_eq_getElem (by rw [Array.size_modify]; exact hlt), Array.getElem_modify_self, hk]
  rfl
theorem Box4.set2 {W : World} {B : Nat} {t : TypeId} {x y z u : Value} (h : Box4 W B t x y z u) (c : Value) : Box4 (W.setCell ⟨B, 2, none⟩ c) B t x y c u := h.set 2 c
theorem Box4.set3 {W : World} {B : Nat} {t : TypeId} {x y z u : Value} (h : Box4 W B t x y z u) (c : Value) : Box4 (W.setCell ⟨B, 3, none⟩ c) B t x y z c := h.set 3 c
theorem Box4.put {W : World} {B : Nat} {t : TypeId} {x y z u : Value} (h : Box4 W B t x y z u) (x' y' u' v' : Value) : Box4 ((((W.setCell ⟨B, 0, none⟩ x').setCell ⟨B, 1, none⟩ y').setCell ⟨B, 2, none⟩ u').setCell ⟨B, 3, none⟩ v') B t x' y' u' v' := by
  have h0 : Box4 (W.setCell ⟨B, 0, none⟩ x') B t x' y z u := h.set 0 x'
  have h1 : Box4 ((W.setCell ⟨B, 0, none⟩ x').setCell ⟨B, 1, none⟩ y') B t x' y' z u := h0.set 1 y'
  exact (h1.set2 u').set3 v'
theorem Box4.other4 {W : World} {B C : Nat} {t : TypeId} {x y z u : Value} (h : Box4 W B t x y z u) (hne : C ≠ B) (x' y' u' v' : Value) : Box4 ((((W.setCell ⟨C, 0, none⟩ x').setCell ⟨C, 1, none⟩ y').setCell ⟨C, 2, none⟩ u').setCell ⟨C, 3, none⟩ v') B t x y z u := (((h.set_ne hne _).set_ne hne _).set_ne hne _).set_ne hne _
theorem below_put4 {n : Nat} {w W : World} (h : Below n w W) {C : Nat} (hC : n ≤ C) (x' y' u' v' : Value) : Below n w ((((W.setCell ⟨C, 0, none⟩ x').setCell ⟨C, 1, none⟩ y').setCell ⟨C, 2, none⟩ u').setCell ⟨C, 3, none⟩ v') :=
  (((h.setCell (p := ⟨C, 0, none⟩) hC _).setCell (p := ⟨C, 1, none⟩) hC _).setCell (p := ⟨C, 2, none⟩) hC _).setCell (p := ⟨C, 3, none⟩) hC _

def insCells : List Ins → List Value
  | [] => []
  | i :: l => .int .i64 i.op :: .int .i64 i.to :: .int .i64 i.a :: .int .i64 i.b :: .int .i64 i.c :: insCells l
def intCells (l : List Int) : List Value := l.map (Value.int .i64)
theorem insCells_length (l : List Ins) : (insCells l).length = l.length * 5 := by
  induction l with
  | nil => rfl
  | cons i l ih => simp only [insCells, List.length_cons, ih]; omega
theorem insCells_append (l m : List Ins) : insCells (l ++ m) = insCells l ++ insCells m := by
  induction l with
  | nil => rfl
  | cons i l ih => simp only [insCells, List.cons_append, ih]
theorem insCells_get (l : List Ins) : ∀ k, k < l.length → (insCells l)[k * 5]? = some (.int .i64 (cd l k).op) ∧ (insCells l)[k * 5 + 1]? = some (.int .i64 (cd l k).to) ∧ (insCells l)[k * 5 + 2]? = some (.int .i64 (cd l k).a) ∧ (insCells l)[k * 5 + 3]? = some (.int .i64 (cd l k).b) ∧ (insCells l)[k * 5 + 4]? = some (.int .i64 (cd l k).c) := by
  induction l with
  | nil => intro k h; simp at h
  | cons i l ih =>
    intro k h
    cases k with
    | zero => exact ⟨rfl, rfl, rfl, rfl, rfl⟩
    | succ k =>
      have := ih k (by simpa using h)
      have e : cd (i :: l) (k + 1) = cd l k := by unfold cd; simp
      rw [e]
      have e5 : (k + 1) * 5 = k * 5 + 5 := by omega
      rw [e5]
      simpa only [insCells, List.getElem?_cons_succ, show ∀ j, k * 5 + 5 + j = k * 5 + j + 5 from fun j => by omega] using this
theorem ins_one (l : List Ins) : ∀ u ∈ insCells l, u.oneCell' = true := by
  induction l with
  | nil => intro u h; simp [insCells] at h
  | cons i l ih =>
    intro u h
    simp only [insCells, List.mem_cons] at h
    rcases h with rfl | rfl | rfl | rfl | rfl | h
    · rfl
    · rfl
    · rfl
    · rfl
    · rfl
    · exact ih u h
theorem intCells_length (l : List Int) : (intCells l).length = l.length := by simp [intCells]
theorem intCells_get (l : List Int) (k : Nat) (h : k < l.length) : (intCells l)[k]? = some (.int .i64 (ot l k)) := by simp [intCells, ot_lt h, h]
theorem int_one (l : List Int) : ∀ u ∈ intCells l, u.oneCell' = true := by
  intro u hu; obtain ⟨x, _, rfl⟩ := List.mem_map.1 hu; rfl

abbrev OwnC (w : World) (base : Nat) (v : Value) (l : List Ins) : Prop := w.ownsRow base 40 5 v l.length (insCells l)
abbrev OwnO (w : World) (base : Nat) (v : Value) (l : List Int) : Prop := w.ownsRow base 3 1 v l.length (intCells l)
theorem own_below {w w' : World} {base : Nat} {e : TypeId} {size : Nat} {v : Value} {k : Nat} {xs : List Value} (h : w.ownsRow base e size v k xs) (hb : Below w.heap.size w w') : w'.ownsRow base e size v k xs := by
  refine ⟨h.1, ?_⟩
  rcases h.2 with h0 | ⟨g', cap', cur, e, hg, hh, r⟩
  · exact .inl h0
  · refine .inr ⟨g', cap', cur, e, hg, ?_, r⟩
    rw [hb.block g' (Array.getElem?_eq_some_iff.1 hh).1]; exact hh
theorem OwnC.at {w : World} {base : Nat} {v : Value} {l : List Ins} (h : OwnC w base v l) : CodeAt w v l := by
  rcases h.2 with ⟨rfl, h0⟩ | ⟨g, cap, cur, rfl, _, _, h1, h2, _⟩
  · have : l = [] := List.eq_nil_of_length_eq_zero h0
    subst this
    exact ⟨none, 0, rfl, Nat.le_refl _, Nat.zero_le _, fun h => absurd rfl h⟩
  · refine ⟨_, cap, rfl, h1, h2, fun _ => ⟨g, 0, rfl, fun i hi => ?_⟩⟩
    have hc := h.cells (g := g) rfl
    obtain ⟨k0, k1, k2, k3, k4⟩ := insCells_get l i hi
    have a0 := hc _ _ k0
    have a1 := hc _ _ k1
    have a2 := hc _ _ k2
    have a3 := hc _ _ k3
    have a4 := hc _ _ k4
    have hadd : ∀ j, (⟨g, 0, none⟩ : Addr).add j = ⟨g, 0 + j, none⟩ := fun j => by unfold Addr.add; split <;> simp_all
    rw [hadd] at a0 a1 a2 a3 a4
    exact ⟨a0, a1, a2, a3, a4⟩
theorem OwnO.at {w : World} {base : Nat} {v : Value} {l : List Int} (h : OwnO w base v l) : IntsAt w v l := by
  rcases h.2 with ⟨rfl, h0⟩ | ⟨g, cap, cur, rfl, _, _, h1, h2, _⟩
  · have : l = [] := List.eq_nil_of_length_eq_zero h0
    subst this
    exact ⟨none, 0, rfl, Nat.le_refl _, Nat.zero_le _, fun h => absurd rfl h⟩
  · refine ⟨_, cap, rfl, h1, h2, fun _ => ⟨g, 0, rfl, fun i hi => ?_⟩⟩
    have a0 := h.cells (g := g) rfl _ _ (intCells_get l i hi)
    have hadd : ∀ j, (⟨g, 0, none⟩ : Addr).add j = ⟨g, 0 + j, none⟩ := fun j => by unfold Addr.add; split <;> simp_all
    rw [hadd] at a0
    exact a0
/-- the cells that a list lies over, as an append asks for them -/
theorem CodeAt.news {w : World} {ad : Addr} {n cap : Nat} {l : List Ins} (h : CodeAt w (.slice (some ad) n cap) l) : (insCells l).length = n * 5 ∧ ∀ j u, (insCells l)[j]? = some u → w.cell? (ad.add j) = some u := by
  obtain ⟨a, c, he, _, _, h3⟩ := h
  simp only [Value.slice.injEq] at he
  obtain ⟨rfl, rfl, rfl⟩ := he
  refine ⟨insCells_length l, fun j u hu => ?_⟩
  have hj : j < l.length * 5 := by rw [← insCells_length]; exact (List.getElem?_eq_some_iff.1 hu).1
  obtain ⟨b, off, hb, hc⟩ := h3 (by intro e; rw [e] at hj; simp at hj)
  simp only [Option.some.injEq] at hb
  subst hb
  have hadd : (⟨b, off, none⟩ : Addr).add j = ⟨b, off + j, none⟩ := by unfold Addr.add; split <;> simp_all
  rw [hadd]
  obtain ⟨k, r, hr, rfl⟩ : ∃ k r, r < 5 ∧ j = k * 5 + r := ⟨j / 5, j % 5, Nat.mod_lt _ (by decide), by omega⟩
  have hk : k < l.length := by omega
  obtain ⟨k0, k1, k2, k3, k4⟩ := insCells_get l k hk
  have hC := hc k hk
  rw [← Nat.add_assoc]
  match r, hr with
  | 0, _ => rw [Nat.add_zero] at hu ⊢; rw [k0] at hu; rw [hC.cell0]; exact hu
  | 1, _ => rw [k1] at hu; rw [hC.cell1]; exact hu
  | 2, _ => rw [k2] at hu; rw [hC.cell2]; exact hu
  | 3, _ => rw [k3] at hu; rw [hC.cell3]; exact hu
  | 4, _ => rw [k4] at hu; rw [hC.cell4]; exact hu
theorem IntsAt.news {w : World} {ad : Addr} {n cap : Nat} {l : List Int} (h : IntsAt w (.slice (some ad) n cap) l) : (intCells l).length = n * 1 ∧ ∀ j u, (intCells l)[j]? = some u → w.cell? (ad.add j) = some u := by
  obtain ⟨a, c, he, _, _, h3⟩ := h
  simp only [Value.slice.injEq] at he
  obtain ⟨rfl, rfl, rfl⟩ := he
  refine ⟨by simp [intCells], fun j u hu => ?_⟩
  have hj : j < l.length := by rw [← intCells_length]; exact (List.getElem?_eq_some_iff.1 hu).1
  obtain ⟨b, off, hb, hc⟩ := h3 (by intro e; rw [e] at hj; simp at hj)
  simp only [Option.some.injEq] at hb
  subst hb
  have hadd : (⟨b, off, none⟩ : Addr).add j = ⟨b, off + j, none⟩ := by unfold Addr.add; split <;> simp_all
  rw [hadd, hc j hj]
  rw [intCells_get _ _ hj] at hu
  exact hu
theorem info_ins : (Try.prog.info? 40).map (fun i => (i.zero, i.size, i.bytes)) = some (some (.agg #[.int .i64 0, .int .i64 0, .int .i64 0, .int .i64 0, .int .i64 0]), 5, 40) := by kernel_rfl
theorem info_int : (Try.prog.info? 3).map (fun i => (i.zero, i.size, i.bytes)) = some (some (.int .i64 0), 1, 8) := by kernel_rfl

/-- what Clone answers: a list of one's own, or none -/
def CloneC (w w' : World) (e : Ending) (l : List Ins) : Prop := ∃ v, e = .returned v ∧ OwnC w' w.heap.size v l
def CloneO (w w' : World) (e : Ending) (l : List Int) : Prop := ∃ v, e = .returned v ∧ OwnO w' w.heap.size v l
set_option maxRecDepth 100000 in
set_option maxHeartbeats 4000000 in
theorem clonec_any (v : Value) (l : List Ins) (w : World) (h : CodeAt w v l) (hl : l.length ≤ 20000) :
    Calls Try.prog 49 #[v] w fun e w' => CloneC w w' e l ∧ Below w.heap.size w w' := by
  obtain ⟨i0, hi, hz0, hz1, hz2⟩ := info_parts info_ins
  have q22 : ∀ (w : World) (a : Option Addr) (n c n' c' : Nat), (binOp .eql 22 (.slice a n c) (.slice none n' c')).run Try.prog w = .ok (.bool a.isNone) w := fun w a n c n' c' => Lib.run_eql_slice_nil w _ _ a n c n' c' Try.underlying22
  have HI := hide h
  obtain ⟨a, cap, rfl, hcap, hm, hx⟩ := h
  cases a with
  | none =>
    have e : l = [] := by
      cases l with
      | nil => rfl
      | cons x l => obtain ⟨b, off, he, _⟩ := hx (by simp); cases he
    subst e
    clear hx HI
    go_enter Try.func49, Try.ntmps49
    go_wp2
    go_ret
    exact ⟨⟨_, rfl, World.ownsRow_nil _ _ _ _⟩, Below.refl _ _⟩
  | some ad =>
    clear hx
    go_enter Try.func49, Try.ntmps49
    go_wp2_with (at_builtin; refine wpList_append_own _ rfl _ _ 22 rfl w.heap.size 40 i0 (.agg #[.int .i64 0, .int .i64 0, .int .i64 0, .int .i64 0, .int .i64 0]) 5 40 Try.underlying22 hi hz0 hz1 hz2 rfl (by decide) _ _ _ rfl (World.ownsRow_made w #[] 0 (Nat.le_refl _) (Nat.zero_le _) rfl) ad l.length cap (insCells l) rfl (HI.out.news).1 ?_ (ins_one l) ?_ ?_ ?_ ?_)
    · intro j u hj
      have := (HI.out.below (below_alloc w (.cells #[] 40))).news.2 j u hj
      exact this
    · unfold maxLen; omega
    · omega
    · simp
    intro v' w1 hown hgrow hnil
    go_wp2
    go_ret
    refine ⟨⟨v', rfl, by simpa using hown⟩, ?_⟩
    exact ((Below.refl _ w).alloc (Nat.le_refl _) _).grown hgrow (by simp) (by intro k hk; simp [Value.ownBlock] at hk; omega)
set_option maxRecDepth 100000 in
set_option maxHeartbeats 4000000 in
theorem cloneo_any (v : Value) (l : List Int) (w : World) (h : IntsAt w v l) (hl : l.length ≤ 20000) :
    Calls Try.prog 50 #[v] w fun e w' => CloneO w w' e l ∧ Below w.heap.size w w' := by
  obtain ⟨i0, hi, hz0, hz1, hz2⟩ := info_parts info_int
  have q22 : ∀ (w : World) (a : Option Addr) (n c n' c' : Nat), (binOp .eql 23 (.slice a n c) (.slice none n' c')).run Try.prog w = .ok (.bool a.isNone) w := fun w a n c n' c' => Lib.run_eql_slice_nil w _ _ a n c n' c' Try.underlying23
  have HI := hide h
  obtain ⟨a, cap, rfl, hcap, hm, hx⟩ := h
  cases a with
  | none =>
    have e : l = [] := by
      cases l with
      | nil => rfl
      | cons x l => obtain ⟨b, off, he, _⟩ := hx (by simp); cases he
    subst e
    clear hx HI
    go_enter Try.func50, Try.ntmps50
    go_wp2
    go_ret
    exact ⟨⟨_, rfl, World.ownsRow_nil _ _ _ _⟩, Below.refl _ _⟩
  | some ad =>
    clear hx
    go_enter Try.func50, Try.ntmps50
    go_wp2_with (at_builtin; refine wpList_append_own _ rfl _ _ 23 rfl w.heap.size 3 i0 (.int .i64 0) 1 8 Try.underlying23 hi hz0 hz1 hz2 rfl (by decide) _ _ _ rfl (World.ownsRow_made w #[] 0 (Nat.le_refl _) (Nat.zero_le _) rfl) ad l.length cap (intCells l) rfl (HI.out.news).1 ?_ (int_one l) ?_ ?_ ?_ ?_)
    · intro j u hj
      have := (HI.out.below (below_alloc w (.cells #[] 3))).news.2 j u hj
      exact this
    · unfold maxLen; omega
    · omega
    · simp
    intro v' w1 hown hgrow hnil
    go_wp2
    go_ret
    refine ⟨⟨v', rfl, by simpa using hown⟩, ?_⟩
    exact ((Below.refl _ w).alloc (Nat.le_refl _) _).grown hgrow (by simp) (by intro k hk; simp [Value.ownBlock] at hk; omega)
end Go.Proofs.Ytheakienigmkhaa
