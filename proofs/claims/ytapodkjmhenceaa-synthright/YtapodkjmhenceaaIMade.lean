/- integer.made and integer.Make: the number of a sign and of limbs. -/
import Derived.Test.YtapodkjmhenceaaInt
namespace Go.Proofs.Ytapodkjmhenceaa
open Go.RowKit

theorem Try.infoInt : (Try.prog.info? 31).map (·.size) = some 2 := by kernel_rfl

/-- a struct of two cells is handed back -/
theorem ret_int {fn : Func} {R : Ending → World → Prop} {a : Act} {w : World} {p : Tmp} (h : fn.results = #[.cell p 31]) (g : Nat) (x y : Value) (t : TypeId) (fr : Nat × Nat)
    (hp : a.tmps.getD p undef = .pointer (some ⟨g, 0, none⟩)) (hg : w.heap[g]? = some (.cells #[x, y] t fr)) (hd : a.defers = []) (hR : R (.returned (.agg #[x, y])) w) : bodyPost Try.prog fn R .ret a w := by
  refine bodyPost_ret ?_ hd hR
  have hp' : a.tmps[p]?.getD undef = .pointer (some ⟨g, 0, none⟩) := by simpa using hp
  simp [results, h, hp', asAddr, run_loadVar_row w g t 31 #[x, y] fr _ hg Try.underlying31 rfl Try.infoInt]

set_option maxRecDepth 100000 in
theorem made_any (b : Bool) (n : Nat) (l : Value) (w : World) (h : Nums w l (lim n)) :
    Calls Try.prog 79 #[.bool b, l] w fun e w' => ∃ v, e = .returned v ∧ IntAt w' v (sg b n) ∧ Below w.heap.size w w' := by
  have HN := hide h
  obtain ⟨_, a, cap, rfl, hl, hm, _⟩ := h
  unfold maxLen at hm
  by_cases h0 : n = 0
  · subst h0
    simp only [lim_zero, List.length_nil] at *
    go_enter Try.func79, Try.ntmps79
    go_wp2
    refine ret_int rfl w.heap.size _ _ _ _ rfl (heap_alloc_new _ _) rfl ?_
    exact ⟨_, rfl, by rw [sg_zero, ← sg_zero false]; exact IntAt.mk (by rw [lim_zero]; exact Nums.nil_mk _ _ _ (Nat.zero_le _)) fun _ => rfl, below_alloc _ _⟩
  · have hp : 0 < (lim n).length := by rw [lim_pos (by omega)]; simp
    go_enter Try.func79, Try.ntmps79
    go_wp2
    refine ret_int rfl w.heap.size _ _ _ _ rfl (heap_alloc_new _ _) rfl ?_
    exact ⟨_, rfl, IntAt.mk (HN.out.below (below_alloc _ _)) fun h => absurd h h0, below_alloc _ _⟩

/-- a block of two cells that hold a struct of a sign and of limbs -/
def Box (w : World) (g : Nat) (x y : Value) : Prop := w.heap[g]? = some (.cells #[x, y] 31 (0, 0))
theorem Box.cell0 {W : World} {B : Nat} {x y : Value} (h : Box W B x y) : W.cell? ⟨B, 0, none⟩ = some x := by simp [World.cell?, show W.heap[B]? = _ from h]
theorem Box.cell1 {W : World} {B : Nat} {x y : Value} (h : Box W B x y) : W.cell? ⟨B, 1, none⟩ = some y := by simp [World.cell?, show W.heap[B]? = _ from h]
theorem Box.free {W : World} {B : Nat} {x y : Value} (h : Box W B x y) (o : Nat) : W.frozen? ⟨B, o, none⟩ = false := by simp [World.frozen?, show W.heap[B]? = _ from h]
theorem Box.lt {W : World} {B : Nat} {x y : Value} (h : Box W B x y) : B < W.heap.size := (Array.getElem?_eq_some_iff.1 h).1
theorem Box.set0 {W : World} {B : Nat} {x y : Value} (h : Box W B x y) (x' : Value) : Box (W.setCell ⟨B, 0, none⟩ x') B x' y := by
  obtain ⟨hlt, hk⟩ := Array.getElem?_eq_some_iff.1 h
  show (W.heap.modify B _)[B]? = _
  rw [Array.getElem?_eq_getElem (by rw [Array.size_modify]; exact hlt), Array.getElem_modify_self, hk]
  simp
theorem Box.set1 {W : World} {B : Nat} {x y : Value} (h : Box W B x y) (y' : Value) : Box (W.setCell ⟨B, 1, none⟩ y') B x y' := by
  obtain ⟨hlt, hk⟩ := Array.getElem?_eq_some_iff.1 h
  show (W.heap.modify B _)[B]? = _
  rw [Array.getElem?_eq_getElem (by rw [Array.size_modify]; exact hlt), Array.getElem_modify_self, hk]
  simp
theorem Box.below {W W' : World} {B T : Nat} {x y : Value} (h : Box W B x y) (hb : Below T W W') (hT : B < T) : Box W' B x y := (hb.block B hT).trans h
theorem Box.step {W W' : World} {B : Nat} {x y : Value} (h : Box W B x y) (hb : Below W.heap.size W W') : Box W' B x y := h.below hb h.lt
theorem Box.drew {W : World} {B : Nat} {x y : Value} (h : Box W B x y) : Box W.drew B x y := h
theorem Box.new (W : World) (x y : Value) : Box (W.alloc (.cells #[x, y] 31)) W.heap.size x y := heap_alloc_new _ _
theorem Box.set_ne {W : World} {B C o : Nat} {x y : Value} (h : Box W B x y) (hne : C ≠ B) (c : Value) : Box (W.setCell ⟨C, o, none⟩ c) B x y := by
  show (W.heap.modify C _)[B]? = _
  rw [Array.getElem?_modify, if_neg hne]; exact h
/-- both cells of a block written anew: all limbs lie as they lay -/
theorem Box.keeps {W : World} {B : Nat} {x y : Value} (h : Box W B x y) (hx : ∀ z, x ≠ .int .u32 z) (hy : ∀ z, y ≠ .int .u32 z) (x' y' : Value) : Spares W ((W.setCell ⟨B, 0, none⟩ x').setCell ⟨B, 1, none⟩ y') :=
  (Spares.set h.cell0 hx x').trans (Spares.set (h.set0 x').cell1 hy y')

theorem boxes1 (w : World) (x y : Value) : Box (w.alloc (.cells #[x, y] 31)) w.heap.size x y ∧ Below w.heap.size w (w.alloc (.cells #[x, y] 31)) := ⟨Box.new _ _ _, below_alloc _ _⟩
theorem boxes2 (w : World) (x y x' y' : Value) : Box ((w.alloc (.cells #[x, y] 31)).alloc (.cells #[x', y'] 31)) w.heap.size x y ∧ Box ((w.alloc (.cells #[x, y] 31)).alloc (.cells #[x', y'] 31)) (w.heap.size + 1) x' y' ∧ Below w.heap.size w ((w.alloc (.cells #[x, y] 31)).alloc (.cells #[x', y'] 31)) :=
  ⟨(Box.new _ _ _).step (below_alloc _ _), by have := Box.new (w.alloc (.cells #[x, y] 31)) x' y'; rwa [World.size_alloc] at this, (below_alloc _ _).trans ((below_alloc _ _).mono (by simp))⟩
theorem boxes3 (w : World) (x y x' y' x'' y'' : Value) : Box (((w.alloc (.cells #[x, y] 31)).alloc (.cells #[x', y'] 31)).alloc (.cells #[x'', y''] 31)) w.heap.size x y ∧ Box (((w.alloc (.cells #[x, y] 31)).alloc (.cells #[x', y'] 31)).alloc (.cells #[x'', y''] 31)) (w.heap.size + 1) x' y' ∧
    Box (((w.alloc (.cells #[x, y] 31)).alloc (.cells #[x', y'] 31)).alloc (.cells #[x'', y''] 31)) (w.heap.size + 1 + 1) x'' y'' ∧ Below w.heap.size w (((w.alloc (.cells #[x, y] 31)).alloc (.cells #[x', y'] 31)).alloc (.cells #[x'', y''] 31)) :=
  ⟨(boxes2 w x y x' y').1.step (below_alloc _ _), (boxes2 w x y x' y').2.1.step (below_alloc _ _), by have := Box.new ((w.alloc (.cells #[x, y] 31)).alloc (.cells #[x', y'] 31)) x'' y''; rwa [World.size_alloc, World.size_alloc] at this, (boxes2 w x y x' y').2.2.trans ((below_alloc _ _).mono (by simp; omega))⟩

set_option maxRecDepth 100000 in
set_option maxHeartbeats 400000 in
theorem make_any (b : Bool) (l : Value) (xs : List Nat) (w : World) (h : Nums w l xs) (hl : xs.length ≤ 1000000000) :
    Calls Try.prog 75 #[.bool b, l] w fun e w' => ∃ v, e = .returned v ∧ IntAt w' v (sg b (val xs)) ∧ Below w.heap.size w w' := by
  go_enter Try.func75, Try.ntmps75
  go_wp2_with fail
  refine (norm_any _ xs _ (h.below (below_alloc _ _)) hl).mono ?_
  rintro e w1 ⟨v1, rfl, _, n1, hb1⟩
  have HX := hide ((Box.new w _ _).step hb1)
  have HB := hide ((below_alloc w _).trans (hb1.mono (by simp)))
  clear hb1
  go_wp2_with fail
  refine (made_any b (val xs) v1 _ n1).mono ?_
  rintro e w2 ⟨v, rfl, ⟨b', n', a', c', rfl, hn', he, h0⟩, hb2⟩
  replace HX := hide (HX.out.step hb2)
  replace HB := hide (HB.out.trans (hb2.mono HB.out.size))
  have hc0 := HX.out.cell0
  have hc1 := HX.out.cell1
  have hf0 := HX.out.free 0
  have hf1 := HX.out.free 1
  clear hb2
  go_wp2
  refine ret_int rfl w.heap.size _ _ _ _ rfl ((HX.out.set0 _).set1 _) rfl ?_
  exact ⟨_, rfl, ⟨b', n', a', c', rfl, HX.out.keeps (by simp) (by simp) _ _ _ _ hn', he, h0⟩, (HB.out.setCell (p := ⟨w.heap.size, 0, none⟩) (Nat.le_refl _) _).setCell (p := ⟨w.heap.size, 1, none⟩) (Nat.le_refl _) _⟩
end Go.Proofs.Ytapodkjmhenceaa
