/- The lives, found from behind: the state behind the rounds that have come. Plain mathematics. -/
import Derived.Test.YtheakienigmkhaaOrM
import Derived.Test.YtheakienigmkhaaOrA
import Derived.Test.YtheakienigmkhaaPgNeed
namespace Go.Proofs.Ytheakienigmkhaa
open Go.RowKit Go.Shelf

structure US where
  U : Int → Int
  S : Nat → Int
def ust0 (p : Pg) : US := ⟨fun r => if r ∈ p.outs then (p.code.length : Int) else -1, fun _ => 0⟩
def ustp (code : List Ins) (s : US) (k : Nat) : US := ⟨ustep s.U k (cd code k), fun j => if j = k then s.U (cd code k).to else s.S j⟩
def urun (p : Pg) (ks : List Nat) : US := ks.foldl (ustp p.code) (ust0 p)
theorem urun_snoc (p : Pg) (ks : List Nat) (k : Nat) : urun p (ks ++ [k]) = ustp p.code (urun p ks) k := by unfold urun; rw [List.foldl_append]; rfl
theorem urun_bks (p : Pg) : ∀ m, m ≤ p.code.length → (urun p (bks p.code.length m)).U = uAt p (p.code.length - m) ∧ ∀ k, k < p.code.length → (urun p (bks p.code.length m)).S k = if p.code.length - m ≤ k then setA p k else 0
  | 0, _ => by
    refine ⟨?_, fun k hk => by rw [if_neg (by omega)]; rfl⟩
    funext r
    rw [Nat.sub_zero, uAt_end]
    rfl
  | m + 1, h => by
    obtain ⟨h1, h2⟩ := urun_bks p m (by omega)
    have e : p.code.length - m = p.code.length - 1 - m + 1 := by omega
    have e2 : p.code.length - (m + 1) = p.code.length - 1 - m := by omega
    rw [bks_succ, urun_snoc, e2]
    rw [e] at h1
    refine ⟨?_, fun k hk => ?_⟩
    · show ustep _ _ _ = _
      rw [h1, ← uAt_step (by omega)]
    · show (if k = p.code.length - 1 - m then _ else _) = _
      by_cases hkm : k = p.code.length - 1 - m
      · rw [if_pos hkm, if_pos (by omega), h1, hkm]; rfl
      · rw [if_neg hkm, h2 k hk]
        by_cases h3 : p.code.length - m ≤ k
        · rw [if_pos h3, if_pos (by omega)]
        · rw [if_neg h3, if_neg (by omega)]
def setL (p : Pg) : List Int := (List.range p.code.length).map (setA p)
theorem urun_all (p : Pg) : (urun p (bks p.code.length p.code.length)).U = uAt p 0 ∧ ∀ k, k < p.code.length → (urun p (bks p.code.length p.code.length)).S k = ot (setL p) k := by
  obtain ⟨h1, h2⟩ := urun_bks p p.code.length (Nat.le_refl _)
  rw [Nat.sub_self] at h1
  refine ⟨h1, fun k hk => ?_⟩
  rw [h2 k hk, if_pos (by omega)]
  unfold setL
  rw [ot_map_range hk]
theorem urun_step {p : Pg} {pre : List (Fin p.code.length)} {x : Fin p.code.length} : urun p ((pre ++ [x]).map (fun x => x.1)) = ustp p.code (urun p (pre.map (fun x => x.1))) x.1 := by rw [List.map_append]; exact urun_snoc _ _ _

/-- three rows of numbers, and what holds them -/
structure LD (w W : World) (B R : Nat) (x y z u : Value) (Bl Bu gf gs gu a n m : Nat) (lf ls lu : List Int) : Prop where
  below : Below w.heap.size w W
  px : Box4 W B 25 x y z u
  rx : Box2 W R 67 (.slice none 0 0) (.slice none 0 0)
  bl : Box2 W Bl 67 (.slice (some ⟨gf, 0, none⟩) a a) (.slice (some ⟨gs, 0, none⟩) n n)
  bu : Boxed W Bu 23 (.slice (some ⟨gu, 0, none⟩) m m)
  rf : IArr W gf lf
  rs : IArr W gs ls
  ru : IArr W gu lu
  hf : lf.length = a
  hs : ls.length = n
  hu : lu.length = m
  ge : w.heap.size ≤ Bl ∧ w.heap.size ≤ Bu ∧ w.heap.size ≤ gf ∧ w.heap.size ≤ gs ∧ w.heap.size ≤ gu
  ne : gf ≠ gs ∧ gf ≠ gu ∧ gs ≠ gu
section
variable {w W W' : World} {B R : Nat} {x y z u : Value} {Bl Bu gf gs gu a n m : Nat} {lf ls lu : List Int}
theorem LD.keep (h : LD w W B R x y z u Bl Bu gf gs gu a n m lf ls lu) (hb : Below w.heap.size w W') (e : ∀ (k : Nat) (o : Obj), W.heap[k]? = some o → o.isCells = true → W'.heap[k]? = some o) : LD w W' B R x y z u Bl Bu gf gs gu a n m lf ls lu :=
  ⟨hb, e _ _ h.px rfl, e _ _ h.rx rfl, e _ _ h.bl rfl, e _ _ h.bu rfl, e _ _ h.rf rfl, e _ _ h.rs rfl, e _ _ h.ru rfl, h.hf, h.hs, h.hu, h.ge, h.ne⟩
theorem LD.step (h : LD w W B R x y z u Bl Bu gf gs gu a n m lf ls lu) (hb : Below W.heap.size W W') : LD w W' B R x y z u Bl Bu gf gs gu a n m lf ls lu :=
  h.keep (h.below.trans (hb.mono h.below.size)) (fun k _ h1 _ => (hb.block k (Array.getElem?_eq_some_iff.1 h1).1).trans h1)
theorem LD.drew (h : LD w W B R x y z u Bl Bu gf gs gu a n m lf ls lu) : LD w W.drew B R x y z u Bl Bu gf gs gu a n m lf ls lu := h.keep h.below.drew (fun _ _ h _ => h)
theorem LD.nb (h : LD w W B R x y z u Bl Bu gf gs gu a n m lf ls lu) : gf ≠ Bl ∧ gs ≠ Bl ∧ gu ≠ Bl ∧ gf ≠ Bu ∧ gs ≠ Bu ∧ gu ≠ Bu :=
  ⟨h.rf.ne_cells h.bl (by decide), h.rs.ne_cells h.bl (by decide), h.ru.ne_cells h.bl (by decide), h.rf.ne_cells h.bu (by decide), h.rs.ne_cells h.bu (by decide), h.ru.ne_cells h.bu (by decide)⟩
theorem LD.nc (h : LD w W B R x y z u Bl Bu gf gs gu a n m lf ls lu) : gf ≠ B ∧ gs ≠ B ∧ gu ≠ B ∧ gf ≠ R ∧ gs ≠ R ∧ gu ≠ R :=
  ⟨h.rf.ne_cells h.px (by decide), h.rs.ne_cells h.px (by decide), h.ru.ne_cells h.px (by decide), h.rf.ne_cells h.rx (by decide), h.rs.ne_cells h.rx (by decide), h.ru.ne_cells h.rx (by decide)⟩
theorem LD.setU (h : LD w W B R x y z u Bl Bu gf gs gu a n m lf ls lu) (t : Nat) (v : Int) : LD w (W.setCell ⟨gu, t, none⟩ (.int .i64 v)) B R x y z u Bl Bu gf gs gu a n m lf ls (lu.set t v) := by
  have nb := h.nb
  have hs : ∀ k, k ≠ gu → (W.setCell ⟨gu, t, none⟩ (.int .i64 v)).heap[k]? = W.heap[k]? := fun k hk => Below.heap_setCell W ⟨gu, t, none⟩ _ k hk
  exact ⟨h.below.setCell (p := ⟨gu, t, none⟩) h.ge.2.2.2.2 _, (hs _ (Ne.symm h.nc.2.2.1)).trans h.px, (hs _ (Ne.symm h.nc.2.2.2.2.2)).trans h.rx, (hs _ (Ne.symm nb.2.2.1)).trans h.bl, (hs _ (Ne.symm nb.2.2.2.2.2)).trans h.bu, (hs _ h.ne.2.1).trans h.rf, (hs _ h.ne.2.2).trans h.rs, h.ru.set t v, h.hf, h.hs, by rw [List.length_set]; exact h.hu, h.ge, h.ne⟩
theorem LD.setS (h : LD w W B R x y z u Bl Bu gf gs gu a n m lf ls lu) (t : Nat) (v : Int) : LD w (W.setCell ⟨gs, t, none⟩ (.int .i64 v)) B R x y z u Bl Bu gf gs gu a n m lf (ls.set t v) lu := by
  have nb := h.nb
  have hs : ∀ k, k ≠ gs → (W.setCell ⟨gs, t, none⟩ (.int .i64 v)).heap[k]? = W.heap[k]? := fun k hk => Below.heap_setCell W ⟨gs, t, none⟩ _ k hk
  exact ⟨h.below.setCell (p := ⟨gs, t, none⟩) h.ge.2.2.2.1 _, (hs _ (Ne.symm h.nc.2.1)).trans h.px, (hs _ (Ne.symm h.nc.2.2.2.2.1)).trans h.rx, (hs _ (Ne.symm nb.2.1)).trans h.bl, (hs _ (Ne.symm nb.2.2.2.2.1)).trans h.bu, (hs _ h.ne.1).trans h.rf, h.rs.set t v, (hs _ (Ne.symm h.ne.2.2)).trans h.ru, h.hf, by rw [List.length_set]; exact h.hs, h.hu, h.ge, h.ne⟩
theorem LD.setF (h : LD w W B R x y z u Bl Bu gf gs gu a n m lf ls lu) (t : Nat) (v : Int) : LD w (W.setCell ⟨gf, t, none⟩ (.int .i64 v)) B R x y z u Bl Bu gf gs gu a n m (lf.set t v) ls lu := by
  have nb := h.nb
  have hs : ∀ k, k ≠ gf → (W.setCell ⟨gf, t, none⟩ (.int .i64 v)).heap[k]? = W.heap[k]? := fun k hk => Below.heap_setCell W ⟨gf, t, none⟩ _ k hk
  exact ⟨h.below.setCell (p := ⟨gf, t, none⟩) h.ge.2.2.1 _, (hs _ (Ne.symm h.nc.1)).trans h.px, (hs _ (Ne.symm h.nc.2.2.2.1)).trans h.rx, (hs _ (Ne.symm nb.1)).trans h.bl, (hs _ (Ne.symm nb.2.2.2.1)).trans h.bu, h.rf.set t v, (hs _ (Ne.symm h.ne.1)).trans h.rs, (hs _ (Ne.symm h.ne.2.1)).trans h.ru, by rw [List.length_set]; exact h.hf, h.hs, h.hu, h.ge, h.ne⟩
end
theorem IArr.inj {w : World} {g : Nat} {l m : List Int} (h : IArr w g l) (k : IArr w g m) : l = m := by
  have e := Option.some.inj ((show w.heap[g]? = _ from h).symm.trans k)
  simp only [Obj.cells.injEq, and_true] at e
  have e2 : intCells l = intCells m := by have := congrArg Array.toList e; simpa using this
  exact List.map_inj_right (f := Value.int .i64) (fun a b q => by simpa using q) |>.1 e2
/-- what a round keeps -/
def LI (p : Pg) (w : World) (B R : Nat) (x y z u : Value) (Bl Bu gf gs gu a m hi : Nat) (pre : List (Fin p.code.length)) (W : World) : Prop :=
  ∃ lf ls lu, LD w W B R x y z u Bl Bu gf gs gu a p.code.length m lf ls lu ∧ hi ≤ W.heap.size ∧ lf = List.replicate a (-1) ∧ (∀ r : Nat, r < m → ot lu r = (urun p (pre.map (fun x => x.1))).U r) ∧ (∀ k, k < p.code.length → ot ls k = (urun p (pre.map (fun x => x.1))).S k)
theorem LI.from {p : Pg} {w : World} {B R : Nat} {x y z u : Value} {Bl Bu gf gs gu a m hi T : Nat} (hB : w.heap.size ≤ T) : OwnFrom T (LI p w B R x y z u Bl Bu gf gs gu a m hi) := fun _ W W' row ⟨lf, ls, lu, h, hz, h0, h1, h2⟩ hg hr =>
  ⟨lf, ls, lu, h.keep (h.below.grown hg h.below.size (fun k hk => Nat.le_trans hB (hr k hk).1)) (fun k o e1 e2 => (hg.block k (Array.getElem?_eq_some_iff.1 e1).1 (fun e => by obtain ⟨_, o', ho, hc⟩ := hr k e.symm; rw [e1] at ho; cases ho; rw [e2] at hc; cases hc)).trans e1), Nat.le_trans hz hg.size, h0, h1, h2⟩
set_option maxRecDepth 100000 in
set_option maxHeartbeats 4000000 in
/-- what an instruction asks, in a row of one's own -/
theorem asks_arr (i : Ins) (w : World) (h : 1 ≤ i.op ∧ i.op ≤ 8) :
    Calls Try.prog 54 #[.agg #[.int .i64 i.op, .int .i64 i.to, .int .i64 i.a, .int .i64 i.b, .int .i64 i.c]] w fun e w' => (∃ g, e = .returned (.slice (some ⟨g, 0, none⟩) (asksL i).length (asksL i).length) ∧ w.heap.size ≤ g ∧ IArr w' g (asksL i)) ∧ Below w.heap.size w w' := by
  obtain ⟨op, to, a, b, c⟩ := i
  dsimp only at h ⊢
  rcases (show op = 1 ∨ op = 2 ∨ op = 3 ∨ op = 4 ∨ op = 5 ∨ op = 6 ∨ op = 7 ∨ op = 8 by omega) with rfl | rfl | rfl | rfl | rfl | rfl | rfl | rfl
  all_goals
    go_enter Try.func54, Try.ntmps54
    go_wp2
    go_ret
    exact ⟨⟨_, rfl, by omega, by have h9 := fun o l => IArr.new (w.alloc o) l; simp only [World.size_alloc] at h9; first | (rw [show asksL _ = [a] from rfl]; exact h9 _ [a]) | (rw [show asksL _ = [a, b] from rfl]; exact h9 _ [a, b])⟩, (below_alloc _ _).trans ((below_alloc _ _).mono (by rw [World.size_alloc]; omega))⟩
end Go.Proofs.Ytheakienigmkhaa
