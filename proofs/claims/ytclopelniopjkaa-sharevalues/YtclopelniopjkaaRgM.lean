/- A function that ranges over functions: the marks that it leaves behind, and what its rounds keep (nothing of limbs). -/
import Derived.Test.YtclopelniopjkaaRgLaw
namespace Go.Proofs.Ytclopelniopjkaa
open Go.RowKit Go.Shelf

/-- marks of ranges that are through -/
def mksC (ds : List Nat) : List Deferred := ds.map fun D => { target := .collected D, args := #[] }
def MarksC (ds : List Nat) (B : Nat) (w : World) : Prop := ds.Nodup ∧ ∀ D ∈ ds, B ≤ D ∧ w.heap[D]? = some (.deferred (some []))
theorem MarksC.one {D B : Nat} {w : World} (h : B ≤ D) (hd : w.heap[D]? = some (.deferred (some []))) : MarksC [D] B w := ⟨by simp, fun E hE => by simp at hE; subst hE; exact ⟨h, hd⟩⟩
theorem leavesC {n : Nat} {fn : Func} {tmps : Array Value} {R : Ending → World → Prop} {β : Type} {B : Nat} {I : β → World → Prop} (hI : OwnFrom B I) (s : β) (hR : ∀ V, I s V → ∃ v, (results fn tmps).run Try.prog V = .ok v V ∧ R (.returned v) V) :
    ∀ (ds : List Nat) (W : World), MarksC ds B W → I s W → LeavesInM Fence.wide n Try.prog fn tmps R (mksC ds) .returning W
  | [], W, _, h => by obtain ⟨v, h1, h2⟩ := hR W h; exact ⟨_, h1, h2⟩
  | D :: ds, W, hm, h => by
    have hD := hm.2 D (by simp)
    have hn' := List.nodup_cons.1 hm.1
    refine ⟨by simp, .inl ⟨_, _, rfl, run_takeDeferred hD.2, leavesC hI s hR ds _ ⟨hn'.2, fun E hE => ⟨(hm.2 E (by simp [hE])).1, ?_⟩⟩ (hI.putObj _ h hD.1 hD.2 rfl)⟩⟩
    exact (World.putObj_heap_other (by rintro rfl; exact hn'.1 hE)).trans (hm.2 E (by simp [hE])).2
def postC (n : Nat) (fn : Func) (R : Ending → World → Prop) : Exit → Act → World → Prop
  | .normal, a, w | .ret, a, w => LeavesInM Fence.wide n Try.prog fn a.tmps R a.defers .returning w
  | _, _, _ => False
theorem postC_sub {n : Nat} {fn : Func} {R : Ending → World → Prop} (e : Exit) (a : Act) (w : World) (h : postC n fn R e a w) : bodyPostM Fence.wide n Try.prog fn R e a w := by
  cases e <;> first | exact h | exact h.elim
set_option maxRecDepth 100000 in
theorem callsC {n : Nat} {f : FuncId} {fn : Func} {c : Code} {args : Array Value} {w : World} {R : Ending → World → Prop} (hf : Try.prog.funcs[f]? = some fn) (hb : fn.body = some c)
    (h : c.wp Try.prog (postC n fn R) { tmps := args ++ Array.replicate (fn.ntmps - args.size) undef, defers := [] } w) : Calls Try.prog f args w R :=
  (callsIn_wide (n := n)).1 (callsIn_of_wp_marks hf hb trivial (wpIn_wide.2 (wp_mono h postC_sub)) rfl)
theorem own_upC {β : Type} {B C : Nat} {I : β → World → Prop} (h : OwnFrom B I) (hBC : B ≤ C) : OwnFrom C I := fun s X Y row hs hg hr => h s X Y row hs hg (fun r e => ⟨Nat.le_trans hBC (hr r e).1, (hr r e).2⟩)
theorem below_ownC {β : Type} {T C : Nat} {A : World} (h : T ≤ C) (h2 : T ≤ A.heap.size) : OwnFrom C (fun (_ : β) Z => Below T A Z) := fun _ _ _ _ hs hg hr => hs.grown hg (Nat.le_trans h2 hs.size) (fun r e => Nat.le_trans h (hr r e).1)
theorem box2_own {β : Type} (B : Nat) (t : TypeId) (f g : β → Value) : Go.Own (fun s W => Box2 W B t (f s) (g s)) := fun s X Y row hs hg hrow =>
  (hg.block B hs.lt (fun e' => by obtain ⟨o, ho, hc⟩ := hrow B e'.symm; rw [show X.heap[B]? = _ from hs] at ho; cases ho; cases hc)).trans hs
/-- what a round keeps: what is no cell from B on, the blocks from lo to hi, what was there at T -/
structure Rn (B lo hi : Nat) (X Y : World) : Prop where
  kf : KeepsFrom B X Y
  kc : ∀ k, lo ≤ k → k < hi → Y.heap[k]? = X.heap[k]?
theorem Rn.refl (B lo hi : Nat) (X : World) : Rn B lo hi X X := ⟨KeepsFrom.refl _ _, fun _ _ _ => rfl⟩
theorem Rn.trans {B lo hi : Nat} {X Y Z : World} (h : Rn B lo hi X Y) (k : Rn B lo hi Y Z) : Rn B lo hi X Z := ⟨h.kf.trans k.kf, fun i h1 h2 => (k.kc i h1 h2).trans (h.kc i h1 h2)⟩
theorem Rn.below {B lo hi : Nat} {X Y : World} (hb : Below X.heap.size X Y) (hs : hi ≤ X.heap.size) : Rn B lo hi X Y :=
  ⟨⟨hb.size, fun k o _ hk _ => (hb.block k (Array.getElem?_eq_some_iff.1 hk).1).trans hk⟩, fun i _ h2 => hb.block i (by omega)⟩
theorem Rn.set {B lo hi b o : Nat} (X : World) (v : Value) (h : b < lo ∨ hi ≤ b) : Rn B lo hi X (X.setCell ⟨b, o, none⟩ v) :=
  ⟨(KeepsOthers.setCell _ _ _).from _, fun i h1 h2 => Below.heap_setCell _ _ _ _ (by show i ≠ b; omega)⟩
theorem Rn.grown {B lo hi : Nat} {X Y : World} {row : Option Nat} (hg : X.grownBy Y row) (hr : ∀ r, row = some r → (r < lo ∨ hi ≤ r) ∧ ∃ cs t f, X.heap[r]? = some (.cells cs t f)) (hs : hi ≤ X.heap.size) : Rn B lo hi X Y :=
  ⟨⟨hg.size, fun k o _ hk ho => (hg.block k (Array.getElem?_eq_some_iff.1 hk).1 (fun e => by obtain ⟨_, cs, t, f, h⟩ := hr k e.symm; rw [hk] at h; cases h; cases ho)).trans hk⟩,
   fun i h1 h2 => hg.block i (by omega) (fun e => by have := (hr i e.symm).1; omega)⟩
section
variable {α : Type} {P : Program} {g : Operand} {ps : Array Tmp} {assign body : Code} {Q : Exit → Act → World → Prop} {a : Act} {w : World} {n : Nat}
/-- as rangeC, where the frame of a round is a function of what is told, and the iterator turns nothing -/
theorem rangeP (fr : Act → Array Tmp → α → Act) (h1 : 1 ≤ n) {gf : Nat} {lb : Array Value} (hg : a.eval g = .func (.func gf) #[] lb) (eg : ∀ args w, (callFunc gf args).run P w = .ok (.enter gf args) w)
    {encs : α → Array Value} {Kq : Nat → World → World → Prop} {S Sp : List α → Prop} {w0 : World} (hseq : YieldsC (n - 1) P gf lb encs Kq (fun _ _ => False) S Sp w0) {Kp : World → World → Prop} (hKq : Kp = Kq (w.heap.size + 2))
    (hKt : ∀ {A B C : World}, Kp A B → Kp B C → Kp A C) (hKb : ∀ (W : World) (o : Obj), w.heap.size + 1 < W.heap.size → Kp W (W.putObj (w.heap.size + 1) o)) (hb0 : Below w0.heap.size w0 w) (hps : ∀ x, (encs x).size = ps.size)
    (I : List α → World → Prop) (Ix : Code → List α → World → Prop) (hI : OwnFrom w.heap.size I) (hIx : ∀ c, OwnFrom w.heap.size (Ix c)) (h0 : I [] w)
    (hassign : ∀ (l : Nat) (pre : List α) (x : α) (W : World) (K : Act → World → Prop), I pre W → (∀ a' V, KeepsFrom w.heap.size W V → Kp W V → I pre V → a' = fr a ps x → K a' V) →
      assign.wpIn (Fence.wide.inRound l) (n - 1 - 1) P (Exit.then K (fun _ _ _ => False)) { tmps := (ps.zip (encs x)).foldl (fun t (p, v) => t.setIfInBounds p v) a.tmps, defers := [] } W)
    (hbody : ∀ (l : Nat) (pre : List α) (x : α) (W : World), I pre W → Sp (pre ++ [x]) → body.wpIn (Fence.wide.inRound l) (n - 1 - 1) P (ownPostG w.heap.size Kp I Ix (pre ++ [x]) W) (fr a ps x) W)
    (hdone : ∀ (D : Nat) (xs : List α) (W : World), w.heap.size ≤ D → S xs → I xs W → W.heap[D]? = some (.deferred (some [])) → Q .normal { a with defers := { target := .collected D, args := #[] } :: a.defers } W)
    (hstop : ∀ (D : Nat) (c : Code) (pre : List α) (W : World), w.heap.size ≤ D → Sp pre → Ix c pre W → W.heap[D]? = some (.deferred (some [])) → c.wpIn Fence.wide n P Q { a with defers := { target := .collected D, args := #[] } :: a.defers } W) :
    (Code.rangeFunc g ps assign body).wpIn Fence.wide n P Q a w :=
  rangeC h1 hg eg hseq hKq (fun h k => hKt h k) hKb hb0 hps I Ix hI hIx (fun _ _ _ _ h => h.elim) (fun _ _ h => h.elim) h0 (fun x a' _ => a' = fr a ps x) (fun _ _ => ownFrom_pure _ _) hassign (fun l pre x a' W hi e hs => by subst e; exact hbody l pre x W hi hs) hdone hstop
end
end Go.Proofs.Ytclopelniopjkaa
