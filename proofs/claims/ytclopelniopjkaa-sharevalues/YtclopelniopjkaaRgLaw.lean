/- A range over an iterator that may turn something of its own while it yields: what such an iterator answers, and the law of its caller. -/
import Derived.Test.YtclopelniopjkaaBox
import Derived.RangeFuncBox
import Derived.RangeFuncLeaves
import Derived.RangeFuncNested
import Derived.Shelf.Abstract
import Derived.OwnWalkIn
import Derived.TacticsInMore
import Derived.LoopNIn
import Derived.LoopIn
import Derived.WalkMore
import Derived.Stop.RegionWithIn
import Derived.RangeFuncBound
import Derived.Sort.CutIn
import Derived.RegionTactic
import Derived.Deep.Cut
import Derived.Sort.LoopGhostIn
namespace Go.Proofs.Ytclopelniopjkaa
open Go.RowKit Go.Shelf

/-- what an iterator answers that may lay blocks of its own beyond the caller's and yield while they turn -/
def YieldsC {α : Type} (n : Nat) (P : Program) (g : Nat) (lb : Array Value) (encs : α → Array Value) (Kp : Nat → World → World → Prop) (C : World → World → Prop) (S Sp : List α → Prop) (w : World) : Prop :=
  ∀ (l : Nat) (J Jx : List α → World → Prop) (W : World), Below w.heap.size w W → OwnFrom W.heap.size J → OwnFrom W.heap.size Jx → (∀ pre U V, J pre U → C U V → J pre V) →
    (∀ pre x U, J pre U → Sp (pre ++ [x]) → YieldAt Fence.wide (n - 1) P l (encs x) U fun e V => KeepsFrom W.heap.size U V ∧
      ((e = .returned (.bool true) ∧ J (pre ++ [x]) V ∧ Kp W.heap.size U V) ∨ (e = .returned (.bool false) ∧ Jx (pre ++ [x]) V))) →
    J [] W → CallsIn Fence.wide n P g (#[.func (.yield l) #[] #[]] ++ lb) W fun e V => (∃ v, e = .returned v) ∧ ((∃ xs, S xs ∧ J xs V) ∨ (∃ pre, Sp pre ∧ Jx pre V))

/-- the loop's record in its states -/
def rcdC (fn : FuncId) (tmps : Array Value) (ps : Array Tmp) (assign body : Code) (d : Nat) (st : LoopState) (pe : Option Code) : Loop :=
  { state := st, pending := pe, fn := fn, tmps := tmps, params := ps, assign := assign, body := body, defers := d }

theorem turnC_keeps {B l : Nat} (W : World) (o : Obj) (h : l < B) : KeepsFrom B W (W.putObj l o) :=
  KeepsFrom.of_grownBy (grownBy_putObj' W l o) (fun j e => by cases e; exact h)

section
variable {α : Type} {P : Program} {g : Operand} {ps : Array Tmp} {assign body : Code} {Q : Exit → Act → World → Prop} {a : Act} {w : World} {n : Nat}
theorem rangeC (h1 : 1 ≤ n) {gf : Nat} {lb : Array Value} (hg : a.eval g = .func (.func gf) #[] lb) (eg : ∀ args w, (callFunc gf args).run P w = .ok (.enter gf args) w)
    {encs : α → Array Value} {Kq : Nat → World → World → Prop} {C : World → World → Prop} {S Sp : List α → Prop} {w0 : World} (hseq : YieldsC (n - 1) P gf lb encs Kq C S Sp w0) {Kp : World → World → Prop} (hKq : Kp = Kq (w.heap.size + 2))
    (hKt : ∀ {A B C : World}, Kp A B → Kp B C → Kp A C) (hKb : ∀ (W : World) (o : Obj), w.heap.size + 1 < W.heap.size → Kp W (W.putObj (w.heap.size + 1) o)) (hb0 : Below w0.heap.size w0 w) (hps : ∀ x, (encs x).size = ps.size)
    (I : List α → World → Prop) (Ix : Code → List α → World → Prop) (hI : OwnFrom w.heap.size I) (hIx : ∀ c, OwnFrom w.heap.size (Ix c)) (hIC : ∀ pre U V, I pre U → C U V → I pre V) (hCk : ∀ U V, C U V → ∀ k, w.heap.size ≤ k → V.heap[k]? = U.heap[k]?) (h0 : I [] w) (Ax : α → Act → World → Prop) (hAx : ∀ x a', OwnFrom w.heap.size (fun (_ : Unit) W => Ax x a' W))
    (hassign : ∀ (l : Nat) (pre : List α) (x : α) (W : World) (K : Act → World → Prop), I pre W → (∀ a' V, KeepsFrom w.heap.size W V → Kp W V → I pre V → Ax x a' V → K a' V) →
      assign.wpIn (Fence.wide.inRound l) (n - 1 - 1) P (Exit.then K (fun _ _ _ => False)) { tmps := (ps.zip (encs x)).foldl (fun t (p, v) => t.setIfInBounds p v) a.tmps, defers := [] } W)
    (hbody : ∀ (l : Nat) (pre : List α) (x : α) (a' : Act) (W : World), I pre W → Ax x a' W → Sp (pre ++ [x]) → body.wpIn (Fence.wide.inRound l) (n - 1 - 1) P (ownPostG w.heap.size Kp I Ix (pre ++ [x]) W) a' W)
    (hdone : ∀ (D : Nat) (xs : List α) (W : World), w.heap.size ≤ D → S xs → I xs W → W.heap[D]? = some (.deferred (some [])) → Q .normal { a with defers := { target := .collected D, args := #[] } :: a.defers } W)
    (hstop : ∀ (D : Nat) (c : Code) (pre : List α) (W : World), w.heap.size ≤ D → Sp pre → Ix c pre W → W.heap[D]? = some (.deferred (some [])) → c.wpIn Fence.wide n P Q { a with defers := { target := .collected D, args := #[] } :: a.defers } W) :
    (Code.rangeFunc g ps assign body).wpIn Fence.wide n P Q a w := by
  subst hKq
  refine wpIn_rangeFunc fun fn hfn => ?_
  let R := rcdC fn a.tmps ps assign body w.heap.size
  let W1 : World := (w.alloc (.deferred (some []))).alloc (.loop (R .ready none))
  have s1 : W1.heap.size = w.heap.size + 2 := by simp [W1]
  have l1 : W1.heap[w.heap.size + 1]? = some (.loop (R .ready none)) := by
    have := World.alloc_heap_new (w.alloc (.deferred (some []))) (.loop (R .ready none))
    rwa [World.size_alloc] at this
  have d1 : W1.heap[w.heap.size]? = some (.deferred (some [])) := (Below.heap_alloc _ _ _ (by simp)).trans (World.alloc_heap_new w _)
  have ofI : ∀ {β : Type} {M : β → World → Prop}, OwnFrom w.heap.size M → OwnFrom W1.heap.size M := fun hM s X Y row hs hgr hr => hM s X Y row hs hgr (fun r e => ⟨by have := (hr r e).1; omega, (hr r e).2⟩)
  have lies : ∀ {X Y : World} {row : Option Nat} {k : Nat} {o : Obj}, X.grownBy Y row → (∀ r, row = some r → W1.heap.size ≤ r ∧ ∃ o : Obj, X.heap[r]? = some o ∧ o.isCells = false) → k < w.heap.size + 2 → X.heap[k]? = some o → Y.heap[k]? = some o := fun hgr hr hk ho =>
    (hgr.block _ (Array.getElem?_eq_some_iff.1 ho).1 (fun e => by have := (hr _ e.symm).1; omega)).trans ho
  refine ⟨w.heap.size + 1, [{ target := .collected w.heap.size, args := #[] }], W1, { target := .fn (.func gf) lb, args := #[.func (.yield (w.heap.size + 1)) #[] #[]] }, W1, gf, #[.func (.yield (w.heap.size + 1)) #[] #[]] ++ lb, W1, run_enterLoop_outer .., ?_, fun _ _ => trivial, ?_, fun _ => h1, ?_⟩
  · simp only [resolve, hg]; simp [go_sem]
  · simp [invoke, go_sem, eg]
  · refine (hseq (w.heap.size + 1) (fun pre W => I pre W ∧ W.heap[w.heap.size + 1]? = some (.loop (R .ready none)) ∧ W.heap[w.heap.size]? = some (.deferred (some [])))
      (fun pre W => ∃ c, Ix c pre W ∧ W.heap[w.heap.size + 1]? = some (.loop (R .done (some c))) ∧ W.heap[w.heap.size]? = some (.deferred (some []))) W1
      (hb0.trans ((((Below.refl _ w).alloc (Nat.le_refl _) _).alloc (by simp) _).mono hb0.size))
      (fun s X Y row hs hgr hr => ⟨ofI hI s X Y row hs.1 hgr hr, lies hgr hr (by omega) hs.2.1, lies hgr hr (by omega) hs.2.2⟩)
      (fun s X Y row hs hgr hr => by obtain ⟨c, hc, hl, hk⟩ := hs; exact ⟨c, ofI (hIx c) s X Y row hc hgr hr, lies hgr hr (by omega) hl, lies hgr hr (by omega) hk⟩)
      (fun pre U V hs hc => ⟨hIC pre U V hs.1 hc, (hCk U V hc _ (by omega)).trans hs.2.1, (hCk U V hc _ (Nat.le_refl _)).trans hs.2.2⟩)
      ?_ ⟨hI.alloc _ (hI.alloc _ h0), l1, d1⟩).mono ?_
    · rintro pre x U ⟨iU, lU, dU⟩ hlen
      refine ⟨fn, _, assign, body, run_yield lU (hps x), roundIn_of_wpIn hfn (hassign _ pre x U _ iU fun a' V kV pV iV xV => ?_)⟩
      have lV := kV.same _ _ (by omega) lU rfl
      have dV := kV.same _ _ (Nat.le_refl _) dU rfl
      have zV := (Array.getElem?_eq_some_iff.1 lV).1
      obtain ⟨V2, hV2⟩ : ∃ V2, V2 = V.putObj (w.heap.size + 1) (.loop (R .busy none)) := ⟨_, rfl⟩
      have lV2 : V2.heap[w.heap.size + 1]? = some (.loop (R .busy none)) := by rw [hV2]; exact World.putObj_heap_same zV
      have dV2 : V2.heap[w.heap.size]? = some (.deferred (some [])) := by rw [hV2]; exact (World.putObj_heap_other (by omega)).trans dV
      refine ⟨V2, by rw [hV2]; exact run_beginRound lV rfl, ?_⟩
      refine wpIn_mono (hbody _ pre x a' V2 (by rw [hV2]; exact hI.putObj _ iV (by omega) lV rfl) (by rw [hV2]; exact (hAx x a').putObj (s := ()) _ xV (by omega) lV rfl) hlen) ?_
      have k2 : KeepsFrom W1.heap.size U V2 := by
        have : KeepsFrom W1.heap.size V V2 := by rw [hV2]; exact turnC_keeps V _ (by omega)
        exact KeepsFrom.trans ⟨kV.size, fun k o hk => kV.same k o (by omega)⟩ this
      -- the round's end: the record turns once more
      have fin : ∀ (jump : Option Code) (Z : World), KeepsFrom w.heap.size V2 Z → (Instr.endRound (w.heap.size + 1) jump).run P Z = .ok (.bool jump.isNone) (Z.putObj (w.heap.size + 1) (.loop (R (if jump.isNone then .ready else .done) jump))) ∧ w.heap.size + 1 < Z.heap.size ∧
          Z.heap[w.heap.size + 1]? = some (.loop (R .busy none)) ∧ (Z.putObj (w.heap.size + 1) (.loop (R (if jump.isNone then .ready else .done) jump))).heap[w.heap.size]? = some (.deferred (some [])) ∧ KeepsFrom W1.heap.size U (Z.putObj (w.heap.size + 1) (.loop (R (if jump.isNone then .ready else .done) jump))) := fun jump Z hZ => by
        have lZ := hZ.same _ _ (by omega) lV2 rfl
        exact ⟨run_endRound jump lZ, (Array.getElem?_eq_some_iff.1 lZ).1, lZ, (World.putObj_heap_other (by omega)).trans (hZ.same _ _ (Nat.le_refl _) dV2 rfl),
          (k2.trans ⟨hZ.size, fun k o hk => hZ.same k o (by omega)⟩).trans (turnC_keeps Z _ (by omega))⟩
      rintro e a3 Z hp
      cases e with
      | normal =>
        obtain ⟨k3, p3, i3⟩ := hp
        obtain ⟨r3, z3, l3, d3, kk⟩ := fin none Z k3
        exact ⟨_, _, r3, kk, .inl ⟨rfl, ⟨hI.putObj _ i3 (by omega) l3 rfl, World.putObj_heap_same z3, d3⟩, by rw [s1]; exact hKt pV (hKt (hKt (by rw [hV2]; exact hKb V _ zV) p3) (hKb Z _ z3))⟩⟩
      | ret =>
        obtain ⟨k3, i3⟩ := hp
        obtain ⟨r3, z3, l3, d3, kk⟩ := fin (some .ret) Z k3
        exact ⟨_, _, r3, kk, .inr ⟨rfl, .ret, (hIx _).putObj _ i3 (by omega) l3 rfl, World.putObj_heap_same z3, d3⟩⟩
      | exit id =>
        obtain ⟨k3, i3⟩ := hp
        obtain ⟨r3, z3, l3, d3, kk⟩ := fin (some (.exit id)) Z k3
        exact ⟨_, _, r3, kk, .inr ⟨rfl, .exit id, (hIx _).putObj _ i3 (by omega) l3 rfl, World.putObj_heap_same z3, d3⟩⟩
      | goto t =>
        obtain ⟨k3, i3⟩ := hp
        obtain ⟨r3, z3, l3, d3, kk⟩ := fin (some (.goto t)) Z k3
        exact ⟨_, _, r3, kk, .inr ⟨rfl, .goto t, (hIx _).putObj _ i3 (by omega) l3 rfl, World.putObj_heap_same z3, d3⟩⟩
      | panic ch => exact hp.elim
      | outgrown => exact hp.elim
    · rintro e Z ⟨⟨v, rfl⟩, (⟨xs, hS, iZ, lZ, dZ⟩ | ⟨pre, hSp, c, iZ, lZ, dZ⟩)⟩
      · exact ⟨none, _, run_endLoop lZ (by simp [R, rcdC]), hdone _ xs _ (Nat.le_refl _) hS (hI.putObj _ iZ (by omega) lZ rfl) ((World.putObj_heap_other (by omega)).trans dZ)⟩
      · exact ⟨some c, _, run_endLoop lZ (by simp [R, rcdC]), hstop _ c pre _ (Nat.le_refl _) hSp ((hIx c).putObj _ iZ (by omega) lZ rfl) ((World.putObj_heap_other (by omega)).trans dZ)⟩
end
end Go.Proofs.Ytclopelniopjkaa
