/- prog.Needed. -/
import Derived.Test.YtheakienigmkhaaPgBack2
import Derived.Test.YtheakienigmkhaaPgRNeed
import Derived.RangeFuncCalls
import Derived.RegionTactic
import Derived.Sort.CutIn
namespace Go.Proofs.Ytheakienigmkhaa
open Go.RowKit Go.Shelf
attribute [local go_sem] Oper.semAt_some

theorem boxed_step {W W' : World} {B : Nat} {t : TypeId} {v : Value} (h : Boxed W B t v) (hb : Below W.heap.size W W') : Boxed W' B t v := (hb.block B h.lt).trans h
/-- as bodyPostM, and no panic -/
def postN (n : Nat) (fn : Func) (R : Ending → World → Prop) : Exit → Act → World → Prop
  | .normal, a, w | .ret, a, w => LeavesInM Fence.wide n Try.prog fn a.tmps R a.defers .returning w
  | _, _, _ => False
theorem postN_sub {n : Nat} {fn : Func} {R : Ending → World → Prop} (e : Exit) (a : Act) (w : World) (h : postN n fn R e a w) : bodyPostM Fence.wide n Try.prog fn R e a w := by
  cases e <;> first | exact h | exact h.elim
set_option maxRecDepth 100000 in
theorem callsIn_marksN {n : Nat} {f : FuncId} {fn : Func} {c : Code} {args : Array Value} {w : World} {R : Ending → World → Prop} (hf : Try.prog.funcs[f]? = some fn) (hb : fn.body = some c)
    (h : c.wp Try.prog (postN n fn R) { tmps := args ++ Array.replicate (fn.ntmps - args.size) undef, defers := [] } w) : Calls Try.prog f args w R :=
  (callsIn_wide (n := n)).1 (callsIn_of_wp_marks hf hb trivial (wpIn_wide.2 (wp_mono h postN_sub)) rfl)
theorem OwnB.ne_cells {w : World} {base g n c b : Nat} {l : List Bool} {t : TypeId} {xs : Array Value} {z : Nat × Nat} (h : OwnB w base (.slice (some ⟨g, 0, none⟩) n c) l) (hb : w.heap[b]? = some (.cells xs t z)) (ht : t ≠ 4) : g ≠ b := by
  rintro rfl
  rcases h.2 with ⟨h0, _⟩ | ⟨g', cap, cur, h0, _, hh, _⟩
  · cases h0
  · simp only [Value.slice.injEq, Option.some.injEq, Addr.mk.injEq, and_true] at h0
    obtain ⟨rfl, _, _⟩ := h0
    rw [hb] at hh
    simp only [Option.some.injEq, Obj.cells.injEq] at hh
    exact ht hh.2.1
theorem OwnB.heap {w W' : World} {base g n c : Nat} {l : List Bool} (h : OwnB w base (.slice (some ⟨g, 0, none⟩) n c) l) (e : ∀ o, w.heap[g]? = some o → o.isCells = true → W'.heap[g]? = some o) : OwnB W' base (.slice (some ⟨g, 0, none⟩) n c) l := by
  refine ⟨h.1, ?_⟩
  rcases h.2 with ⟨h0, _⟩ | ⟨g', cap, cur, h0, hg, hh, r⟩
  · cases h0
  · simp only [Value.slice.injEq, Option.some.injEq, Addr.mk.injEq, and_true] at h0
    obtain ⟨rfl, rfl, rfl⟩ := h0
    exact .inr ⟨g, c, cur, rfl, hg, e _ hh rfl, r⟩
theorem ownB_lt {w : World} {base g n c : Nat} {l : List Bool} (h : OwnB w base (.slice (some ⟨g, 0, none⟩) n c) l) : g < w.heap.size := by
  rcases h.2 with ⟨h0, _⟩ | ⟨g', cap, cur, h0, hg, hh, r⟩
  · cases h0
  · simp only [Value.slice.injEq, Option.some.injEq, Addr.mk.injEq, and_true] at h0
    obtain ⟨rfl, _, _⟩ := h0
    exact (Array.getElem?_eq_some_iff.1 hh).1
/-- the state: two rows of truths, and the boxes that hold them -/
structure ND (w W : World) (Bn Bw gn gw n m : Nat) (ln lw : List Bool) : Prop where
  below : Below w.heap.size w W
  bn : Boxed W Bn 53 (.slice (some ⟨gn, 0, none⟩) n n)
  bw : Boxed W Bw 53 (.slice (some ⟨gw, 0, none⟩) m m)
  on : OwnB W w.heap.size (.slice (some ⟨gn, 0, none⟩) n n) ln
  ow : OwnB W w.heap.size (.slice (some ⟨gw, 0, none⟩) m m) lw
  ll : ln.length = n
  lm : lw.length = m
  hn : w.heap.size ≤ gn
  hw : w.heap.size ≤ gw
  ne : gn ≠ gw
section
variable {w W W' : World} {Bn Bw gn gw n m : Nat} {ln lw : List Bool}
theorem ND.keep (h : ND w W Bn Bw gn gw n m ln lw) (hb : Below w.heap.size w W') (e : ∀ (k : Nat) (o : Obj), W.heap[k]? = some o → o.isCells = true → W'.heap[k]? = some o) : ND w W' Bn Bw gn gw n m ln lw :=
  ⟨hb, e _ _ h.bn rfl, e _ _ h.bw rfl, h.on.heap (fun o h1 h2 => e _ o h1 h2), h.ow.heap (fun o h1 h2 => e _ o h1 h2), h.ll, h.lm, h.hn, h.hw, h.ne⟩
theorem ND.step (h : ND w W Bn Bw gn gw n m ln lw) (hb : Below W.heap.size W W') : ND w W' Bn Bw gn gw n m ln lw :=
  h.keep (h.below.trans (hb.mono h.below.size)) (fun k _ h1 _ => (hb.block k (Array.getElem?_eq_some_iff.1 h1).1).trans h1)
theorem IntsAt.storeW {v : Value} {l : List Int} {t : Nat} {d : Bool} (h : IntsAt W v l) (hn : ND w W Bn Bw gn gw n m ln lw) : IntsAt (W.setCell ⟨gw, t, none⟩ (.bool d)) v l := by
  obtain ⟨a, cap, h1, h2, h3, h4⟩ := h
  refine ⟨a, cap, h1, h2, h3, fun hne => ?_⟩
  obtain ⟨b, off, e, hc⟩ := h4 hne
  refine ⟨b, off, e, fun i hi => ?_⟩
  have hb : b ≠ gw := by rintro rfl; exact hn.ow.no_int hn.lm (hc i hi)
  rw [World.cell?_of_block (Below.heap_setCell W ⟨gw, t, none⟩ (.bool d) b hb)]
  exact hc i hi
theorem ND.storeN (h : ND w W Bn Bw gn gw n m ln lw) (k : Nat) (d : Bool) : ND w (W.setCell ⟨gn, k, none⟩ (.bool d)) Bn Bw gn gw n m (ln.set k d) lw :=
  ⟨h.below.setCell (p := ⟨gn, k, none⟩) h.hn _, (Below.heap_setCell W ⟨gn, k, none⟩ _ Bn (fun e => h.on.ne_cells h.bn (by decide) e.symm)).trans h.bn, (Below.heap_setCell W ⟨gn, k, none⟩ _ Bw (fun e => h.on.ne_cells h.bw (by decide) e.symm)).trans h.bw, h.on.store,
    h.ow.heap (fun o h1 _ => (Below.heap_setCell W ⟨gn, k, none⟩ _ gw (fun e => h.ne e.symm)).trans h1), by rw [List.length_set]; exact h.ll, h.lm, h.hn, h.hw, h.ne⟩
theorem ND.storeW (h : ND w W Bn Bw gn gw n m ln lw) (k : Nat) (d : Bool) : ND w (W.setCell ⟨gw, k, none⟩ (.bool d)) Bn Bw gn gw n m ln (lw.set k d) :=
  ⟨h.below.setCell (p := ⟨gw, k, none⟩) h.hw _, (Below.heap_setCell W ⟨gw, k, none⟩ _ Bn (fun e => h.ow.ne_cells h.bn (by decide) e.symm)).trans h.bn, (Below.heap_setCell W ⟨gw, k, none⟩ _ Bw (fun e => h.ow.ne_cells h.bw (by decide) e.symm)).trans h.bw,
    h.on.heap (fun o h1 _ => (Below.heap_setCell W ⟨gw, k, none⟩ _ gn h.ne).trans h1), h.ow.store, h.ll, by rw [List.length_set]; exact h.lm, h.hn, h.hw, h.ne⟩
end
/-- what a round keeps -/
def NI (outs : List Int) (code : List Ins) (w : World) (Bn Bw gn gw m hi : Nat) (pre : List (Fin code.length)) (W : World) : Prop :=
  ∃ ln lw, ND w W Bn Bw gn gw code.length m ln lw ∧ hi ≤ W.heap.size ∧ (∀ r : Nat, r < m → bl lw r = (nrun outs code (pre.map (fun x => x.1))).want r) ∧ (∀ k, k < code.length → bl ln k = (nrun outs code (pre.map (fun x => x.1))).need k)
theorem NI.from {outs : List Int} {code : List Ins} {w : World} {Bn Bw gn gw m hi B : Nat} (hB : w.heap.size ≤ B) : OwnFrom B (NI outs code w Bn Bw gn gw m hi) := fun _ W W' row ⟨ln, lw, h, hz, h1, h2⟩ hg hr =>
  ⟨ln, lw, h.keep (h.below.grown hg h.below.size (fun k hk => Nat.le_trans hB (hr k hk).1)) (fun k o e1 e2 => (hg.block k (Array.getElem?_eq_some_iff.1 e1).1 (fun e => by obtain ⟨_, o', ho, hc⟩ := hr k e.symm; rw [e1] at ho; cases ho; rw [e2] at hc; cases hc)).trans e1), Nat.le_trans hz hg.size, h1, h2⟩
theorem ko_below {W W' : World} (hb : Below W.heap.size W W') : KeepsOthers W W' := ⟨hb.size, fun k _ h _ => (hb.block k (Array.getElem?_eq_some_iff.1 h).1).trans h⟩
theorem keeps_below {lo hi : Nat} {W W' : World} (hb : Below W.heap.size W W') (h : hi ≤ W.heap.size) : Keeps lo hi W W' := fun k _ h2 => hb.block k (by omega)
theorem keeps_set {lo hi g o : Nat} (W : World) (v : Value) (h : g < lo) : Keeps lo hi W (W.setCell ⟨g, o, none⟩ v) := fun k h1 _ => Below.heap_setCell W ⟨g, o, none⟩ v k (by show k ≠ g; omega)
theorem keeps_alloc {lo hi : Nat} (W : World) (o : Obj) (h : hi ≤ W.heap.size) : Keeps lo hi W (W.alloc o) := fun k _ h2 => Below.heap_alloc _ _ _ (by omega)
def frF (a : Act) (code : List Ins) (ps : Array Tmp) (x : Fin code.length) (gx : Nat) : Act := { tmps := (((ps.zip (encF code x)).foldl (fun t (p, v) => t.setIfInBounds p v) a.tmps).setIfInBounds 10 (.int .i64 (x.1 : Nat))).setIfInBounds 11 (.pointer (some ⟨gx, 0, none⟩)), defers := [] }
theorem axF_from (B : Nat) (a' : Act) (f : Nat → Act) (x : Ins) : OwnFrom B (fun (_ : Unit) W => ∃ gx, a' = f gx ∧ Box5 W gx 40 x) := fun _ W W' row ⟨gx, e, h⟩ hg hr =>
  ⟨gx, e, (hg.block gx h.lt (fun e1 => by obtain ⟨_, o, ho, hc⟩ := hr gx e1.symm; rw [show W.heap[gx]? = _ from h] at ho; cases ho; cases hc)).trans h⟩
theorem range_need {code : List Ins} {g : Operand} {ps : Array Tmp} {assign body : Code} {Q : Exit → Act → World → Prop} {a : Act} {w : World} {n : Nat} (h1 : 1 ≤ n) {gf : Nat} {lb : Array Value} (hg : a.eval g = .func (.func gf) #[] lb) (eg : ∀ args w, (callFunc gf args).run Try.prog w = .ok (.enter gf args) w)
    {Kp : World → World → Prop} {w0 : World} (hseq : SeqStopsK Fence.wide (n - 1) Try.prog gf lb (encF code) Kp (fun ys => ys.map (fun x => x.1) = bks code.length code.length) (fun _ => True) code.length w0)
    (hKt : ∀ {A B C : World}, Kp A B → Kp B C → Kp A C) (hKb : ∀ (W : World) (l : Nat) (o o' : Obj), w.heap.size ≤ l → W.heap[l]? = some o → o.isCells = false → o.isWalk = false → Kp W (W.putObj l o')) (hb0 : Below w0.heap.size w0 w) (hps : ∀ x, (encF code x).size = ps.size)
    (I : List (Fin code.length) → World → Prop) (hI : OwnFrom w.heap.size I) (h0 : I [] w)
    (hassign : ∀ (l : Nat) (pre : List (Fin code.length)) (x : Fin code.length) (W : World) (K : Act → World → Prop), I pre W → (∀ a' W', KeepsFrom w.heap.size W W' → Kp W W' → I pre W' → (∃ gx, a' = frF a code ps x gx ∧ Box5 W' gx 40 (cd code x.1)) → K a' W') →
      assign.wpIn (Fence.wide.inRound l) (n - 1 - 1) Try.prog (Exit.then K (fun _ _ _ => False)) { tmps := (ps.zip (encF code x)).foldl (fun t (p, v) => t.setIfInBounds p v) a.tmps, defers := [] } W)
    (hbody : ∀ (l : Nat) (pre : List (Fin code.length)) (x : Fin code.length) (gx : Nat) (W : World), I pre W → Box5 W gx 40 (cd code x.1) → body.wpIn (Fence.wide.inRound l) (n - 1 - 1) Try.prog (ownPostG w.heap.size Kp I (fun _ _ _ => False) (pre ++ [x]) W) (frF a code ps x gx) W)
    (hdone : ∀ (D : Nat) (xs : List (Fin code.length)) (W : World), w.heap.size ≤ D → xs.map (fun x => x.1) = bks code.length code.length → I xs W → W.heap[D]? = some (.deferred (some [])) → Q .normal { a with defers := { target := .collected D, args := #[] } :: a.defers } W) :
    (Code.rangeFunc g ps assign body).wpIn Fence.wide n Try.prog Q a w :=
  wpIn_rangeFunc_ownH rfl h1 hg trivial eg hseq (fun h k => hKt h k) hKb hb0 hps I (fun _ _ _ => False) hI (fun _ => ownFrom_pure _ _) h0 (fun x a' W => ∃ gx, a' = frF a code ps x gx ∧ Box5 W gx 40 (cd code x.1)) (fun x a' => axF_from _ a' _ _) hassign
    (fun l pre x a' W _ _ hi ⟨gx, e, hb⟩ _ => by subst e; exact hbody l pre x gx W hi hb) hdone (fun _ _ _ _ _ _ h _ => h.elim)
theorem one_mark {n : Nat} {fn : Func} {t u : Tmp} (h : fn.results = #[.tmp t, .tmp u]) (tmps : Array Value) (We w : World) (g D c : Nat) (l : List Bool) (ht : tmps.getD t undef = .slice (some ⟨g, 0, none⟩) c c) (hu : tmps.getD u undef = .int .i64 0) (h1 : We.heap[D]? = some (.deferred (some [])))
    (hO : OwnB We w.heap.size (.slice (some ⟨g, 0, none⟩) c c) l) (hb : Below w.heap.size w We) (hw1 : w.heap.size ≤ D) :
    LeavesInM Fence.wide n Try.prog fn tmps (fun e w' => ∃ g, e = .returned (.tuple #[.slice (some ⟨g, 0, none⟩) c c, .int .i64 0]) ∧ OwnB w' w.heap.size (.slice (some ⟨g, 0, none⟩) c c) l ∧ Below w.heap.size w w') [{ target := .collected D, args := #[] }] .returning We := by
  refine ⟨by simp, .inl ⟨_, _, rfl, run_takeDeferred h1, ?_⟩⟩
  refine ⟨_, results_tmp2 h _ _ _, g, by rw [ht, hu], hO.heap (fun o e1 e2 => ?_), hb.trans (belowK_b (w := w) (Nat.le_refl _) We D _ (.deferred none) hw1 h1 rfl rfl)⟩
  have hne : g ≠ D := by rintro rfl; rw [e1] at h1; cases h1; cases e2
  exact (World.putObj_heap_other hne).trans e1
theorem want_step {outs : List Int} {code : List Ins} {pre : List (Fin code.length)} {x : Fin code.length} : nrun outs code ((pre ++ [x]).map (fun x => x.1)) = nstep code (nrun outs code (pre.map (fun x => x.1))) x.1 := by rw [List.map_append]; exact nrun_snoc _ _ _ _


end Go.Proofs.Ytheakienigmkhaa
