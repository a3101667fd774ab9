/- A function that ranges over functions: the marks that it leaves behind, and what its rounds keep. -/
import Derived.Test.YtdafdfgkfkanjaaDoorRgLaw
import Derived.Test.YtdafdfgkfkanjaaDoorInt
namespace Go.Proofs.YtdafdfgkfkanjaaDoor
open Go.RowKit Go.Shelf

theorem boxed_step {W W' : World} {B : Nat} {t : TypeId} {v : Value} (h : Boxed W B t v) (hb : Below W.heap.size W W') : Boxed W' B t v := (hb.block B h.lt).trans h
/-- marks of ranges that are through -/
def mksC (ds : List Nat) : List Deferred := ds.map fun D => { target := .collected D, args := #[] }
def MarksC (ds : List Nat) (B : Nat) (w : World) : Prop := ds.Nodup ∧ ∀ D ∈ ds, B ≤ D ∧ w.heap[D]? = some (.deferred (some []))
theorem MarksC.one {D B : Nat} {w : World} (h : B ≤ D) (hd : w.heap[D]? = some (.deferred (some []))) : MarksC [D] B w := ⟨by simp, fun E hE => by simp at hE; subst hE; exact ⟨h, hd⟩⟩
theorem leavesC {n : Nat} {fn : Func} {tmps : Array Value} {R : Ending → World → Prop} {β : Type} {B : Nat} {I : β → World → Prop} (hI : OwnFrom B I) (s : β) (hR : ∀ V, I s V → ∃ v, (results fn tmps).run Tryd.prog V = .ok v V ∧ R (.returned v) V) :
    ∀ (ds : List Nat) (W : World), MarksC ds B W → I s W → LeavesInM Fence.wide n Tryd.prog fn tmps R (mksC ds) .returning W
  | [], W, _, h => by obtain ⟨v, h1, h2⟩ := hR W h; exact ⟨_, h1, h2⟩
  | D :: ds, W, hm, h => by
    have hD := hm.2 D (by simp)
    have hn' := List.nodup_cons.1 hm.1
    refine ⟨by simp, .inl ⟨_, _, rfl, run_takeDeferred hD.2, leavesC hI s hR ds _ ⟨hn'.2, fun E hE => ⟨(hm.2 E (by simp [hE])).1, ?_⟩⟩ (hI.putObj _ h hD.1 hD.2 rfl)⟩⟩
    exact (World.putObj_heap_other (by rintro rfl; exact hn'.1 hE)).trans (hm.2 E (by simp [hE])).2
def postC (n : Nat) (fn : Func) (R : Ending → World → Prop) : Exit → Act → World → Prop
  | .normal, a, w | .ret, a, w => LeavesInM Fence.wide n Tryd.prog fn a.tmps R a.defers .returning w
  | _, _, _ => False
theorem postC_sub {n : Nat} {fn : Func} {R : Ending → World → Prop} (e : Exit) (a : Act) (w : World) (h : postC n fn R e a w) : bodyPostM Fence.wide n Tryd.prog fn R e a w := by
  cases e <;> first | exact h | exact h.elim
set_option maxRecDepth 100000 in
theorem callsC {n : Nat} {f : FuncId} {fn : Func} {c : Code} {args : Array Value} {w : World} {R : Ending → World → Prop} (hf : Tryd.prog.funcs[f]? = some fn) (hb : fn.body = some c)
    (h : c.wp Tryd.prog (postC n fn R) { tmps := args ++ Array.replicate (fn.ntmps - args.size) undef, defers := [] } w) : Calls Tryd.prog f args w R :=
  (callsIn_wide (n := n)).1 (callsIn_of_wp_marks hf hb trivial (wpIn_wide.2 (wp_mono h postC_sub)) rfl)

/-- a block of cells that is none of limbs -/
def NoLimb (W : World) (b : Nat) : Prop := ∀ o z, W.cell? ⟨b, o, none⟩ ≠ some (.int .u32 z)
theorem spares_row {X Y : World} {b : Nat} (hg : X.grownBy Y (some b)) (hb : NoLimb X b) : Spares X Y := by
  intro u ys hn
  obtain ⟨ho, a, cap, rfl, h1, h2, h3⟩ := hn
  refine ⟨ho, a, cap, rfl, h1, h2, fun hx => ?_⟩
  obtain ⟨c, off, rfl, hcell⟩ := h3 hx
  exact ⟨c, off, rfl, fun i hi => hg.cell (hcell i hi) fun e => by simp only [Option.some.injEq] at e; subst e; exact hb _ _ (hcell i hi)⟩
theorem spares_none {X Y : World} {row : Option Nat} (hg : X.grownBy Y row) (hr : ∀ r, row = some r → ∃ o : Obj, X.heap[r]? = some o ∧ o.isCells = false) : Spares X Y := by
  cases row with
  | none =>
    intro u ys hn
    obtain ⟨ho, a, cap, rfl, h1, h2, h3⟩ := hn
    refine ⟨ho, a, cap, rfl, h1, h2, fun hx => ?_⟩
    obtain ⟨c, off, rfl, hcell⟩ := h3 hx
    exact ⟨c, off, rfl, fun i hi => hg.cell (hcell i hi) (by simp)⟩
  | some b =>
    refine spares_row hg fun o z h => ?_
    obtain ⟨ob, h1, h2⟩ := hr b rfl
    cases ob <;> simp_all [World.cell?, Obj.isCells]
theorem Boxed.noLimb {W : World} {b : Nat} {t : TypeId} {v : Value} (h : Boxed W b t v) (hv : ∀ z, v ≠ .int .u32 z) : NoLimb W b := fun o z e => by
  unfold World.cell? at e
  rw [show W.heap[b]? = _ from h] at e
  match o with
  | 0 => simp at e; exact hv z e
  | o + 1 => simp at e
theorem Box2.noLimb {W : World} {b : Nat} {t : TypeId} {x y : Value} (h : Box2 W b t x y) (hx : ∀ z, x ≠ .int .u32 z) (hy : ∀ z, y ≠ .int .u32 z) : NoLimb W b := fun o z e => by
  unfold World.cell? at e
  rw [show W.heap[b]? = _ from h] at e
  match o with
  | 0 => simp at e; exact hx z e
  | 1 => simp at e; exact hy z e
  | o + 2 => simp at e
theorem own_upC {β : Type} {B C : Nat} {I : β → World → Prop} (h : OwnFrom B I) (hBC : B ≤ C) : OwnFrom C I := fun s X Y row hs hg hr => h s X Y row hs hg (fun r e => ⟨Nat.le_trans hBC (hr r e).1, (hr r e).2⟩)
theorem below_ownC {β : Type} {T C : Nat} {A : World} (h : T ≤ C) (h2 : T ≤ A.heap.size) : OwnFrom C (fun (_ : β) Z => Below T A Z) := fun _ _ _ _ hs hg hr => hs.grown hg (Nat.le_trans h2 hs.size) (fun r e => Nat.le_trans h (hr r e).1)
theorem box2_own {β : Type} (B : Nat) (t : TypeId) (f g : β → Value) : Go.Own (fun s W => Box2 W B t (f s) (g s)) := fun s X Y row hs hg hrow =>
  (hg.block B hs.lt (fun e' => by obtain ⟨o, ho, hc⟩ := hrow B e'.symm; rw [show X.heap[B]? = _ from hs] at ho; cases ho; cases hc)).trans hs
/-- what a round keeps: what is no cell from B on, the blocks from lo to hi, what was there at T -/
structure Rn (B lo hi : Nat) (X Y : World) : Prop where
  kf : KeepsFrom B X Y
  kc : ∀ k, lo ≤ k → k < hi → Y.heap[k]? = X.heap[k]?
theorem Rn.refl (B lo hi : Nat) (X : World) : Rn B lo hi X X := ⟨KeepsFrom.refl _ _, fun _ _ _ => rfl⟩
theorem Rn.trans {B lo hi : Nat} {X Y Z : World} (h : Rn B lo hi X Y) (k : Rn B lo hi Y Z) : Rn B lo hi X Z := ⟨h.kf.trans k.kf, fun i h1 h2 => (k.kc i h1 h2).trans (h.kc i h1 h2)⟩
theorem Rn.below {B lo hi : Nat} {X Y : World} (hb : Below X.heap.size X Y) (hs : hi ≤ X.heap.size) : Rn B lo hi X Y :=
  ⟨⟨hb.size, fun k o _ hk _ => (hb.block k (Array.getElem?_eq_some_iff.1 hk).1).trans hk⟩, fun i _ h2 => hb.block i (by omega)⟩
theorem Rn.set {B lo hi b o : Nat} (X : World) (v : Value) (h : b < lo ∨ hi ≤ b) : Rn B lo hi X (X.setCell ⟨b, o, none⟩ v) :=
  ⟨(KeepsOthers.setCell _ _ _).from _, fun i h1 h2 => Below.heap_setCell _ _ _ _ (by show i ≠ b; omega)⟩
theorem Rn.grown {B lo hi : Nat} {X Y : World} {row : Option Nat} (hg : X.grownBy Y row) (hr : ∀ r, row = some r → (r < lo ∨ hi ≤ r) ∧ ∃ cs t f, X.heap[r]? = some (.cells cs t f)) (hs : hi ≤ X.heap.size) : Rn B lo hi X Y :=
  ⟨⟨hg.size, fun k o _ hk ho => (hg.block k (Array.getElem?_eq_some_iff.1 hk).1 (fun e => by obtain ⟨_, cs, t, f, h⟩ := hr k e.symm; rw [hk] at h; cases h; cases ho)).trans hk⟩,
   fun i h1 h2 => hg.block i (by omega) (fun e => by have := (hr i e.symm).1; omega)⟩
end Go.Proofs.YtdafdfgkfkanjaaDoor
