/- A range over an iterator that lays blocks of its own when it begins and turns them between what it tells: what such an iterator answers, and the law of its caller. -/
import Derived.Test.YtclopelniopjkaaRgM
import Derived.Test.YtclopelniopjkaaPgBack1
namespace Go.Proofs.Ytclopelniopjkaa
open Go.RowKit Go.Shelf

/-- nothing turns but the blocks from lo to hi; more may be made -/
structure Turns (lo hi : Nat) (U V : World) : Prop where
  bel : Below 0 U V
  keep : ∀ k, k < U.heap.size → (k < lo ∨ hi ≤ k) → V.heap[k]? = U.heap[k]?
theorem Turns.refl (lo hi : Nat) (U : World) : Turns lo hi U U := ⟨Below.refl _ _, fun _ _ _ => rfl⟩
theorem Turns.trans {lo hi : Nat} {A B C : World} (h : Turns lo hi A B) (k : Turns lo hi B C) : Turns lo hi A C :=
  ⟨h.bel.trans k.bel, fun i h1 h2 => (k.keep i (Nat.lt_of_lt_of_le h1 h.bel.size) h2).trans (h.keep i h1 h2)⟩
theorem Turns.below {lo hi : Nat} {A B : World} (h : Below A.heap.size A B) : Turns lo hi A B := ⟨h.mono (Nat.zero_le _), fun k hk _ => h.block k hk⟩
theorem Turns.wide {lo hi lo' hi' : Nat} {A B : World} (h : Turns lo hi A B) (h1 : lo' ≤ lo) (h2 : hi ≤ hi') : Turns lo' hi' A B := ⟨h.bel, fun k hk hc => h.keep k hk (by omega)⟩
theorem Turns.cell {lo hi : Nat} {A B : World} (h : Turns lo hi A B) {b o : Nat} {v : Value} (hc : A.cell? ⟨b, o, none⟩ = some v) (hb : b < lo ∨ hi ≤ b) : B.cell? ⟨b, o, none⟩ = some v :=
  (World.cell?_of_block (h.keep b (World.block_lt_of_cell? _ _ hc) hb)).trans hc
theorem Turns.under {lo hi base : Nat} {A B C : World} (h : Below base A B) (k : Turns lo hi B C) (hb : base ≤ lo) (hs : base ≤ B.heap.size) : Below base A C :=
  ⟨k.bel.os.trans h.os, k.bel.tape.trans h.tape, k.bel.output.trans h.output, Nat.le_trans h.size k.bel.size, fun i hi => (k.keep i (Nat.lt_of_lt_of_le hi hs) (.inl (Nat.lt_of_lt_of_le hi hb))).trans (h.block i hi)⟩

theorem yield_inL {P : Program} {m k l r : Nat} {args : Array Value} {W : World} {R : Ending → World → Prop} (h : YieldAt Fence.wide m P l args W R) : YieldAt (Fence.wide.inRound r) k P l args W R := by
  obtain ⟨fn, tmps, asg, bdy, hy, h1, h2⟩ := h
  exact ⟨fn, tmps, asg, bdy, hy, h1, fun c cs _ => h2 c cs (fun d e => by cases e)⟩
theorem own_upL {β : Type} {B C : Nat} {I : β → World → Prop} (h : OwnFrom B I) (hBC : B ≤ C) : OwnFrom C I := fun s X Y row hs hg hr => h s X Y row hs hg (fun r e => ⟨Nat.le_trans hBC (hr r e).1, (hr r e).2⟩)
theorem bx_step {W W' : World} {B : Nat} {t : TypeId} {v : Value} (h : Boxed W B t v) (hb : Below W.heap.size W W') : Boxed W' B t v := (hb.block B h.lt).trans h
theorem own_belowL {β : Type} {B : Nat} {I : β → World → Prop} (h : OwnFrom B I) {s : β} {W V : World} (hs : I s W) (hb : Below W.heap.size W V) : I s V :=
  h s W V none hs ⟨hb.os, hb.tape, hb.output, hb.size, fun k hk _ => hb.block k hk⟩ (fun r e => by cases e)
/-- what such an iterator answers; lo to hi: the blocks that it reads; L: where its own end -/
def YieldsL {α : Type} (n : Nat) (P : Program) (g : Nat) (lb : Array Value) (encs : α → Array Value) (lo hi : Nat) (S Sp : List α → Prop) (w : World) : Prop :=
  ∀ (l : Nat) (J Jx : Nat → List α → World → Prop) (W : World), Below w.heap.size w W → (∀ L, OwnFrom W.heap.size (J L)) → (∀ L, OwnFrom W.heap.size (Jx L)) →
    (∀ L pre U V, W.heap.size ≤ L → L ≤ U.heap.size → J L pre U → Turns W.heap.size L U V → J L pre V) →
    (∀ V, Below W.heap.size W V → J V.heap.size [] V) →
    (∀ L pre x U, W.heap.size ≤ L → L ≤ U.heap.size → J L pre U → Sp (pre ++ [x]) → YieldAt Fence.wide (n - 1) P l (encs x) U fun e V => KeepsFrom W.heap.size U V ∧
      ((e = .returned (.bool true) ∧ J L (pre ++ [x]) V ∧ Keeps lo hi U V ∧ Keeps W.heap.size L U V) ∨ (e = .returned (.bool false) ∧ Jx L (pre ++ [x]) V))) →
    CallsIn Fence.wide n P g (#[.func (.yield l) #[] #[]] ++ lb) W fun e V => (∃ v, e = .returned v) ∧ ((∃ L xs, W.heap.size ≤ L ∧ S xs ∧ J L xs V) ∨ (∃ L pre, W.heap.size ≤ L ∧ Sp pre ∧ Jx L pre V))

def KpL (lo hi B L : Nat) (U V : World) : Prop := Keeps lo hi U V ∧ Keeps B L U V
theorem KpL.trans {lo hi B L : Nat} {X Y Z : World} (h : KpL lo hi B L X Y) (k : KpL lo hi B L Y Z) : KpL lo hi B L X Z := ⟨h.1.trans k.1, h.2.trans k.2⟩
theorem KpL.refl (lo hi B L : Nat) (X : World) : KpL lo hi B L X X := ⟨Keeps.refl _ _ _, Keeps.refl _ _ _⟩
theorem KpL.below {lo hi B L : Nat} {X Y : World} (hb : Below X.heap.size X Y) (h1 : hi ≤ X.heap.size) (h2 : L ≤ X.heap.size) : KpL lo hi B L X Y :=
  ⟨fun k _ h => hb.block k (by omega), fun k _ h => hb.block k (by omega)⟩
theorem KpL.put {lo hi B L b : Nat} (X : World) (o : Obj) (h : ∀ k, (lo ≤ k ∧ k < hi) ∨ (B ≤ k ∧ k < L) → k ≠ b) : KpL lo hi B L X (X.putObj b o) :=
  ⟨fun k h1 h2 => World.putObj_heap_other (h k (.inl ⟨h1, h2⟩)), fun k h1 h2 => World.putObj_heap_other (h k (.inr ⟨h1, h2⟩))⟩
theorem KpL.set {lo hi B L b : Nat} (X : World) (o : Nat) (v : Value) (h : ∀ k, (lo ≤ k ∧ k < hi) ∨ (B ≤ k ∧ k < L) → k ≠ b) : KpL lo hi B L X (X.setCell ⟨b, o, none⟩ v) :=
  ⟨fun k h1 h2 => Below.heap_setCell _ _ _ _ (h k (.inl ⟨h1, h2⟩)), fun k h1 h2 => Below.heap_setCell _ _ _ _ (h k (.inr ⟨h1, h2⟩))⟩

section
variable {α : Type} {P : Program} {g : Operand} {ps : Array Tmp} {assign body : Code} {Q : Exit → Act → World → Prop} {a : Act} {w : World} {n : Nat}
theorem rangeL (h1 : 1 ≤ n) {gf : Nat} {lb : Array Value} (hg : a.eval g = .func (.func gf) #[] lb) (eg : ∀ args w, (callFunc gf args).run P w = .ok (.enter gf args) w)
    {encs : α → Array Value} {lo hi : Nat} {S Sp : List α → Prop} {w0 : World} (hseq : YieldsL (n - 1) P gf lb encs lo hi S Sp w0) (hhi : hi ≤ w.heap.size) (hb0 : Below w0.heap.size w0 w) (hps : ∀ x, (encs x).size = ps.size)
    (I : Nat → List α → World → Prop) (Ix : Nat → Code → List α → World → Prop) (hI : ∀ L, OwnFrom w.heap.size (I L)) (hIx : ∀ L c, OwnFrom w.heap.size (Ix L c))
    (hIT : ∀ L pre U V, w.heap.size + 2 ≤ L → L ≤ U.heap.size → I L pre U → Turns (w.heap.size + 2) L U V → I L pre V)
    (h0 : ∀ V, Below w.heap.size w V → w.heap.size + 2 ≤ V.heap.size → I V.heap.size [] V) (Ax : α → Act → World → Prop) (hAx : ∀ x a', OwnFrom w.heap.size (fun (_ : Unit) W => Ax x a' W))
    (hassign : ∀ (l L : Nat) (pre : List α) (x : α) (W : World) (K : Act → World → Prop), w.heap.size + 2 ≤ L → L ≤ W.heap.size → I L pre W → (∀ a' V, KeepsFrom w.heap.size W V → KpL lo hi (w.heap.size + 2) L W V → I L pre V → Ax x a' V → K a' V) →
      assign.wpIn (Fence.wide.inRound l) (n - 1 - 1) P (Exit.then K (fun _ _ _ => False)) { tmps := (ps.zip (encs x)).foldl (fun t (p, v) => t.setIfInBounds p v) a.tmps, defers := [] } W)
    (hbody : ∀ (l L : Nat) (pre : List α) (x : α) (a' : Act) (W : World), w.heap.size + 2 ≤ L → L ≤ W.heap.size → I L pre W → Ax x a' W → Sp (pre ++ [x]) → body.wpIn (Fence.wide.inRound l) (n - 1 - 1) P (ownPostG w.heap.size (KpL lo hi (w.heap.size + 2) L) (I L) (Ix L) (pre ++ [x]) W) a' W)
    (hdone : ∀ (D L : Nat) (xs : List α) (W : World), w.heap.size ≤ D → w.heap.size + 2 ≤ L → S xs → I L xs W → W.heap[D]? = some (.deferred (some [])) → D < w.heap.size + 1 → Q .normal { a with defers := { target := .collected D, args := #[] } :: a.defers } W)
    (hstop : ∀ (D L : Nat) (c : Code) (pre : List α) (W : World), w.heap.size ≤ D → w.heap.size + 2 ≤ L → Sp pre → Ix L c pre W → W.heap[D]? = some (.deferred (some [])) → D < w.heap.size + 1 → c.wpIn Fence.wide n P Q { a with defers := { target := .collected D, args := #[] } :: a.defers } W) :
    (Code.rangeFunc g ps assign body).wpIn Fence.wide n P Q a w := by
  refine wpIn_rangeFunc fun fn hfn => ?_
  let R := rcdC fn a.tmps ps assign body w.heap.size
  let W1 : World := (w.alloc (.deferred (some []))).alloc (.loop (R .ready none))
  have s1 : W1.heap.size = w.heap.size + 2 := by simp [W1]
  have l1 : W1.heap[w.heap.size + 1]? = some (.loop (R .ready none)) := by
    have := World.alloc_heap_new (w.alloc (.deferred (some []))) (.loop (R .ready none))
    rwa [World.size_alloc] at this
  have d1 : W1.heap[w.heap.size]? = some (.deferred (some [])) := (Below.heap_alloc _ _ _ (by simp)).trans (World.alloc_heap_new w _)
  have bW1 : Below w.heap.size w W1 := ((Below.refl _ w).alloc (Nat.le_refl _) _).alloc (by simp) _
  have ofI : ∀ {β : Type} {M : β → World → Prop}, OwnFrom w.heap.size M → OwnFrom W1.heap.size M := fun hM s X Y row hs hgr hr => hM s X Y row hs hgr (fun r e => ⟨by have := (hr r e).1; omega, (hr r e).2⟩)
  have lies : ∀ {X Y : World} {row : Option Nat} {k : Nat} {o : Obj}, X.grownBy Y row → (∀ r, row = some r → W1.heap.size ≤ r ∧ ∃ o : Obj, X.heap[r]? = some o ∧ o.isCells = false) → k < w.heap.size + 2 → X.heap[k]? = some o → Y.heap[k]? = some o := fun hgr hr hk ho =>
    (hgr.block _ (Array.getElem?_eq_some_iff.1 ho).1 (fun e => by have := (hr _ e.symm).1; omega)).trans ho
  refine ⟨w.heap.size + 1, [{ target := .collected w.heap.size, args := #[] }], W1, { target := .fn (.func gf) lb, args := #[.func (.yield (w.heap.size + 1)) #[] #[]] }, W1, gf, #[.func (.yield (w.heap.size + 1)) #[] #[]] ++ lb, W1, run_enterLoop_outer .., ?_, fun _ _ => trivial, ?_, fun _ => h1, ?_⟩
  · simp only [resolve, hg]; simp [go_sem]
  · simp [invoke, go_sem, eg]
  · refine (hseq (w.heap.size + 1) (fun L pre W => I L pre W ∧ W.heap[w.heap.size + 1]? = some (.loop (R .ready none)) ∧ W.heap[w.heap.size]? = some (.deferred (some [])))
      (fun L pre W => ∃ c, Ix L c pre W ∧ W.heap[w.heap.size + 1]? = some (.loop (R .done (some c))) ∧ W.heap[w.heap.size]? = some (.deferred (some []))) W1
      (hb0.trans (bW1.mono hb0.size))
      (fun L s X Y row hs hgr hr => ⟨ofI (hI L) s X Y row hs.1 hgr hr, lies hgr hr (by omega) hs.2.1, lies hgr hr (by omega) hs.2.2⟩)
      (fun L s X Y row hs hgr hr => by obtain ⟨c, hc, hl, hk⟩ := hs; exact ⟨c, ofI (hIx L c) s X Y row hc hgr hr, lies hgr hr (by omega) hl, lies hgr hr (by omega) hk⟩)
      (fun L pre U V hL hU hs hc => by
        have u1 := (Array.getElem?_eq_some_iff.1 hs.2.1).1
        have u2 := (Array.getElem?_eq_some_iff.1 hs.2.2).1
        exact ⟨hIT L pre U V (by omega) hU hs.1 (by rw [← s1]; exact hc), (hc.keep _ u1 (.inl (by omega))).trans hs.2.1, (hc.keep _ u2 (.inl (by omega))).trans hs.2.2⟩)
      (fun V hV => ⟨h0 V (bW1.trans (hV.mono (by omega))) (by have := hV.size; omega), (hV.block _ (by omega)).trans l1, (hV.block _ (by omega)).trans d1⟩)
      ?_).mono ?_
    · rintro L pre x U hL hUL ⟨iU, lU, dU⟩ hlen
      have hL2 : w.heap.size + 2 ≤ L := by omega
      refine ⟨fn, _, assign, body, run_yield lU (hps x), roundIn_of_wpIn hfn (hassign _ L pre x U _ hL2 hUL iU fun a' V kV pV iV xV => ?_)⟩
      have lV := kV.same _ _ (by omega) lU rfl
      have dV := kV.same _ _ (Nat.le_refl _) dU rfl
      have zV := (Array.getElem?_eq_some_iff.1 lV).1
      obtain ⟨V2, hV2⟩ : ∃ V2, V2 = V.putObj (w.heap.size + 1) (.loop (R .busy none)) := ⟨_, rfl⟩
      have lV2 : V2.heap[w.heap.size + 1]? = some (.loop (R .busy none)) := by rw [hV2]; exact World.putObj_heap_same zV
      have dV2 : V2.heap[w.heap.size]? = some (.deferred (some [])) := by rw [hV2]; exact (World.putObj_heap_other (by omega)).trans dV
      have sV2 : L ≤ V2.heap.size := by rw [hV2]; have := kV.size; simp [World.putObj]; omega
      refine ⟨V2, by rw [hV2]; exact run_beginRound lV rfl, ?_⟩
      refine wpIn_mono (hbody _ L pre x a' V2 hL2 sV2 (by rw [hV2]; exact (hI L).putObj _ iV (by omega) lV rfl) (by rw [hV2]; exact (hAx x a').putObj (s := ()) _ xV (by omega) lV rfl) hlen) ?_
      have k2 : KeepsFrom W1.heap.size U V2 := by
        have : KeepsFrom W1.heap.size V V2 := by rw [hV2]; exact turnC_keeps V _ (by omega)
        exact KeepsFrom.trans ⟨kV.size, fun k o hk => kV.same k o (by omega)⟩ this
      have tn : ∀ (X : World) (o : Obj), KpL lo hi (w.heap.size + 2) L X (X.putObj (w.heap.size + 1) o) := fun X o => KpL.put X o (fun k hk => by omega)
      -- the round's end: the record turns once more
      have fin : ∀ (jump : Option Code) (Z : World), KeepsFrom w.heap.size V2 Z → (Instr.endRound (w.heap.size + 1) jump).run P Z = .ok (.bool jump.isNone) (Z.putObj (w.heap.size + 1) (.loop (R (if jump.isNone then .ready else .done) jump))) ∧ w.heap.size + 1 < Z.heap.size ∧
          Z.heap[w.heap.size + 1]? = some (.loop (R .busy none)) ∧ (Z.putObj (w.heap.size + 1) (.loop (R (if jump.isNone then .ready else .done) jump))).heap[w.heap.size]? = some (.deferred (some [])) ∧ KeepsFrom W1.heap.size U (Z.putObj (w.heap.size + 1) (.loop (R (if jump.isNone then .ready else .done) jump))) := fun jump Z hZ => by
        have lZ := hZ.same _ _ (by omega) lV2 rfl
        exact ⟨run_endRound jump lZ, (Array.getElem?_eq_some_iff.1 lZ).1, lZ, (World.putObj_heap_other (by omega)).trans (hZ.same _ _ (Nat.le_refl _) dV2 rfl),
          (k2.trans ⟨hZ.size, fun k o hk => hZ.same k o (by omega)⟩).trans (turnC_keeps Z _ (by omega))⟩
      rintro e a3 Z hp
      cases e with
      | normal =>
        obtain ⟨k3, p3, i3⟩ := hp
        obtain ⟨r3, z3, l3, d3, kk⟩ := fin none Z k3
        refine ⟨_, _, r3, kk, .inl ⟨rfl, ⟨(hI L).putObj _ i3 (by omega) l3 rfl, World.putObj_heap_same z3, d3⟩, ?_⟩⟩
        rw [s1]
        exact pV.trans (((show KpL lo hi (w.heap.size + 2) L V V2 by rw [hV2]; exact tn V _).trans p3).trans (tn Z _))
      | ret =>
        obtain ⟨k3, i3⟩ := hp
        obtain ⟨r3, z3, l3, d3, kk⟩ := fin (some .ret) Z k3
        exact ⟨_, _, r3, kk, .inr ⟨rfl, .ret, (hIx L _).putObj _ i3 (by omega) l3 rfl, World.putObj_heap_same z3, d3⟩⟩
      | exit id =>
        obtain ⟨k3, i3⟩ := hp
        obtain ⟨r3, z3, l3, d3, kk⟩ := fin (some (.exit id)) Z k3
        exact ⟨_, _, r3, kk, .inr ⟨rfl, .exit id, (hIx L _).putObj _ i3 (by omega) l3 rfl, World.putObj_heap_same z3, d3⟩⟩
      | goto t =>
        obtain ⟨k3, i3⟩ := hp
        obtain ⟨r3, z3, l3, d3, kk⟩ := fin (some (.goto t)) Z k3
        exact ⟨_, _, r3, kk, .inr ⟨rfl, .goto t, (hIx L _).putObj _ i3 (by omega) l3 rfl, World.putObj_heap_same z3, d3⟩⟩
      | panic ch => exact hp.elim
      | outgrown => exact hp.elim
    · rintro e Z ⟨⟨v, rfl⟩, (⟨L, xs, hL, hS, iZ, lZ, dZ⟩ | ⟨L, pre, hL, hSp, c, iZ, lZ, dZ⟩)⟩
      · exact ⟨none, _, run_endLoop lZ (by simp [R, rcdC]), hdone _ L xs _ (Nat.le_refl _) (by omega) hS ((hI L).putObj _ iZ (by omega) lZ rfl) ((World.putObj_heap_other (by omega)).trans dZ) (by omega)⟩
      · exact ⟨some c, _, run_endLoop lZ (by simp [R, rcdC]), hstop _ L c pre _ (Nat.le_refl _) (by omega) hSp ((hIx L c).putObj _ iZ (by omega) lZ rfl) ((World.putObj_heap_other (by omega)).trans dZ) (by omega)⟩
/-- as rangeL, where the frame of a round is a function of what is told and of a block -/
theorem rangeLB (fr : Act → Array Tmp → α → Nat → Act) (h1 : 1 ≤ n) {gf : Nat} {lb : Array Value} (hg : a.eval g = .func (.func gf) #[] lb) (eg : ∀ args w, (callFunc gf args).run P w = .ok (.enter gf args) w)
    {encs : α → Array Value} {lo hi : Nat} {S Sp : List α → Prop} {w0 : World} (hseq : YieldsL (n - 1) P gf lb encs lo hi S Sp w0) (hhi : hi ≤ w.heap.size) (hb0 : Below w0.heap.size w0 w) (hps : ∀ x, (encs x).size = ps.size)
    (I : Nat → List α → World → Prop) (Ix : Nat → Code → List α → World → Prop) (hI : ∀ L, OwnFrom w.heap.size (I L)) (hIx : ∀ L c, OwnFrom w.heap.size (Ix L c))
    (hIT : ∀ L pre U V, w.heap.size + 2 ≤ L → L ≤ U.heap.size → I L pre U → Turns (w.heap.size + 2) L U V → I L pre V)
    (h0 : ∀ V, Below w.heap.size w V → w.heap.size + 2 ≤ V.heap.size → I V.heap.size [] V) (Px : α → Nat → World → Prop) (hPx : ∀ x gx, OwnFrom w.heap.size (fun (_ : Unit) W => Px x gx W))
    (hassign : ∀ (l L : Nat) (pre : List α) (x : α) (W : World) (K : Act → World → Prop), w.heap.size + 2 ≤ L → L ≤ W.heap.size → I L pre W → (∀ a' V gx, KeepsFrom w.heap.size W V → KpL lo hi (w.heap.size + 2) L W V → I L pre V → a' = fr a ps x gx → Px x gx V → K a' V) →
      assign.wpIn (Fence.wide.inRound l) (n - 1 - 1) P (Exit.then K (fun _ _ _ => False)) { tmps := (ps.zip (encs x)).foldl (fun t (p, v) => t.setIfInBounds p v) a.tmps, defers := [] } W)
    (hbody : ∀ (l L : Nat) (pre : List α) (x : α) (gx : Nat) (W : World), w.heap.size + 2 ≤ L → L ≤ W.heap.size → I L pre W → Px x gx W → Sp (pre ++ [x]) → body.wpIn (Fence.wide.inRound l) (n - 1 - 1) P (ownPostG w.heap.size (KpL lo hi (w.heap.size + 2) L) (I L) (Ix L) (pre ++ [x]) W) (fr a ps x gx) W)
    (hdone : ∀ (D L : Nat) (xs : List α) (W : World), w.heap.size ≤ D → w.heap.size + 2 ≤ L → S xs → I L xs W → W.heap[D]? = some (.deferred (some [])) → D < w.heap.size + 1 → Q .normal { a with defers := { target := .collected D, args := #[] } :: a.defers } W)
    (hstop : ∀ (D L : Nat) (c : Code) (pre : List α) (W : World), w.heap.size ≤ D → w.heap.size + 2 ≤ L → Sp pre → Ix L c pre W → W.heap[D]? = some (.deferred (some [])) → D < w.heap.size + 1 → c.wpIn Fence.wide n P Q { a with defers := { target := .collected D, args := #[] } :: a.defers } W) :
    (Code.rangeFunc g ps assign body).wpIn Fence.wide n P Q a w :=
  rangeL h1 hg eg hseq hhi hb0 hps I Ix hI hIx hIT h0 (fun x a' W => ∃ gx, a' = fr a ps x gx ∧ Px x gx W) (fun x _ s X Y row ⟨gx, e, hp⟩ hgr hr => ⟨gx, e, hPx x gx s X Y row hp hgr hr⟩)
    (fun l L pre x W K h2 h3 hi hK => hassign l L pre x W K h2 h3 hi (fun a' V gx k1 k2 k3 k4 k5 => hK a' V k1 k2 k3 ⟨gx, k4, k5⟩))
    (fun l L pre x a' W h2 h3 hi ⟨gx, e, hp⟩ hs => by subst e; exact hbody l L pre x gx W h2 h3 hi hp hs) hdone hstop
end
theorem KpL.grown {lo hi B L : Nat} {X Y : World} {row : Option Nat} (hg : X.grownBy Y row) (h : ∀ k, (lo ≤ k ∧ k < hi) ∨ (B ≤ k ∧ k < L) → k < X.heap.size ∧ row ≠ some k) : KpL lo hi B L X Y :=
  ⟨fun k h1 h2 => hg.block k (h k (.inl ⟨h1, h2⟩)).1 (fun e => (h k (.inl ⟨h1, h2⟩)).2 e.symm), fun k h1 h2 => hg.block k (h k (.inr ⟨h1, h2⟩)).1 (fun e => (h k (.inr ⟨h1, h2⟩)).2 e.symm)⟩
/-- what is no cells stays, where a row of cells grows -/
theorem kf_grown {B : Nat} {X Y : World} {row : Option Nat} (hg : X.grownBy Y row) (h : ∀ r, row = some r → ∃ cs t f, X.heap[r]? = some (.cells cs t f)) : KeepsFrom B X Y :=
  ⟨hg.size, fun k o _ hk ho => (hg.block k (Array.getElem?_eq_some_iff.1 hk).1 (fun e => by obtain ⟨cs, t, f, h2⟩ := h k e.symm; rw [hk] at h2; cases h2; cases ho)).trans hk⟩
theorem kf_below {B : Nat} {X Y : World} (hb : Below X.heap.size X Y) : KeepsFrom B X Y := ⟨hb.size, fun k _ _ hk _ => (hb.block k (Array.getElem?_eq_some_iff.1 hk).1).trans hk⟩
theorem kf_set {B b o : Nat} (X : World) (v : Value) : KeepsFrom B X (X.setCell ⟨b, o, none⟩ v) := (KeepsOthers.setCell _ _ _).from _
theorem vrowKeep {w W' : World} {base : Nat} {e : TypeId} {size n : Nat} {v : Value} {xs : List Value} (h : w.ownsRow base e size v n xs) (k : ∀ g, v.ownBlock = some g → W'.heap[g]? = w.heap[g]?) : W'.ownsRow base e size v n xs := by
  refine ⟨h.1, ?_⟩
  rcases h.2 with h0 | ⟨g, cap, cur, rfl, hg, hh, r⟩
  · exact .inl h0
  · exact .inr ⟨g, cap, cur, rfl, hg, (k g rfl).trans hh, r⟩
theorem vrowCells {w : World} {base : Nat} {e : TypeId} {size n : Nat} {v : Value} {xs : List Value} (h : w.ownsRow base e size v n xs) : ∀ r, v.ownBlock = some r → base ≤ r ∧ r < w.heap.size ∧ ∃ cs f, w.heap[r]? = some (.cells cs e f) := by
  intro r hr
  rcases h.2 with ⟨rfl, _⟩ | ⟨g, cap, cur, rfl, hg, hh, _⟩
  · cases hr
  · have e1 : g = r := by simpa [Value.ownBlock] using hr
    subst e1
    exact ⟨hg, (Array.getElem?_eq_some_iff.1 hh).1, _, _, hh⟩
theorem vrowOwn {w : World} {base : Nat} {e : TypeId} {size n : Nat} {v : Value} {xs : List Value} (h : w.ownsRow base e size v n xs) {X Y : World} {row : Option Nat} (hw : X = w) (hg : X.grownBy Y row) (hr : ∀ r, row = some r → ∃ o : Obj, X.heap[r]? = some o ∧ o.isCells = false) : Y.ownsRow base e size v n xs := by
  subst hw
  refine vrowKeep h fun g hgb => ?_
  obtain ⟨_, h2, cs, f, h3⟩ := vrowCells h g hgb
  exact hg.block g h2 (fun e => by obtain ⟨_, ho, hc⟩ := hr g e.symm; rw [h3] at ho; cases ho; cases hc)
theorem boxOwn {X Y : World} {B : Nat} {c : Array Value} {t : TypeId} {f : Nat × Nat} {row : Option Nat} (h : X.heap[B]? = some (.cells c t f)) (hg : X.grownBy Y row) (hr : ∀ r, row = some r → ∃ o : Obj, X.heap[r]? = some o ∧ o.isCells = false) : Y.heap[B]? = some (.cells c t f) :=
  (hg.block B (Array.getElem?_eq_some_iff.1 h).1 (fun e => by obtain ⟨_, ho, hc⟩ := hr B e.symm; rw [h] at ho; cases ho; cases hc)).trans h
end Go.Proofs.Ytclopelniopjkaa
