/- prog.Needed. -/
import Derived.Test.YtcciojlbfaanmaaPgBack2
import Derived.Test.YtcciojlbfaanmaaPgRNeed
import Derived.RangeFuncCalls
import Derived.RegionTactic
import Derived.Sort.CutIn
namespace Go.Proofs.Ytcciojlbfaanmaa
open Go.RowKit Go.Shelf
attribute [local go_sem] Oper.semAt_some

theorem boxed_step {W W' : World} {B : Nat} {t : TypeId} {v : Value} (h : Boxed W B t v) (hb : Below W.heap.size W W') : Boxed W' B t v := (hb.block B h.lt).trans h
/-- as bodyPostM, and no panic -/
def postN (n : Nat) (fn : Func) (R : Ending → World → Prop) : Exit → Act → World → Prop
  | .normal, a, w | .ret, a, w => LeavesInM Fence.wide n Try.prog fn a.tmps R a.defers .returning w
  | _, _, _ => False
theorem postN_sub {n : Nat} {fn : Func} {R : Ending → World → Prop} (e : Exit) (a : Act) (w : World) (h : postN n fn R e a w) : bodyPostM Fence.wide n Try.prog fn R e a w := by
  cases e <;> first | exact h | exact h.elim
set_option maxRecDepth 100000 in
theorem callsIn_marksN {n : Nat} {f : FuncId} {fn : Func} {c : Code} {args : Array Value} {w : World} {R : Ending → World → Prop} (hf : Try.prog.funcs[f]? = some fn) (hb : fn.body = some c)
    (h : c.wp Try.prog (postN n fn R) { tmps := args ++ Array.replicate (fn.ntmps - args.size) undef, defers := [] } w) : Calls Try.prog f args w R :=
  (callsIn_wide (n := n)).1 (callsIn_of_wp_marks hf hb trivial (wpIn_wide.2 (wp_mono h postN_sub)) rfl)
theorem OwnB.ne_cells {w : World} {base g n c b : Nat} {l : List Bool} {t : TypeId} {xs : Array Value} {z : Nat × Nat} (h : OwnB w base (.slice (some ⟨g, 0, none⟩) n c) l) (hb : w.heap[b]? = some (.cells xs t z)) (ht : t ≠ 4) : g ≠ b := by
  rintro rfl
  rcases h.2 with ⟨h0, _⟩ | ⟨g', cap, cur, h0, _, hh, _⟩
  · cases h0
  · simp only [Value.slice.injEq, Option.some.injEq, Addr.mk.injEq, and_true] at h0
    obtain ⟨rfl, _, _⟩ := h0
    rw [hb] at hh
    simp only [Option.some.injEq, Obj.cells.injEq] at hh
    exact ht hh.2.1
theorem OwnB.heap {w W' : World} {base g n c : Nat} {l : List Bool} (h : OwnB w base (.slice (some ⟨g, 0, none⟩) n c) l) (e : ∀ o, w.heap[g]? = some o → o.isCells = true → W'.heap[g]? = some o) : OwnB W' base (.slice (some ⟨g, 0, none⟩) n c) l := by
  refine ⟨h.1, ?_⟩
  rcases h.2 with ⟨h0, _⟩ | ⟨g', cap, cur, h0, hg, hh, r⟩
  · cases h0
  · simp only [Value.slice.injEq, Option.some.injEq, Addr.mk.injEq, and_true] at h0
    obtain ⟨rfl, rfl, rfl⟩ := h0
    exact .inr ⟨g, c, cur, rfl, hg, e _ hh rfl, r⟩
theorem ownB_lt {w : World} {base g n c : Nat} {l : List Bool} (h : OwnB w base (.slice (some ⟨g, 0, none⟩) n c) l) : g < w.heap.size := by
  rcases h.2 with ⟨h0, _⟩ | ⟨g', cap, cur, h0, hg, hh, r⟩
  · cases h0
  · simp only [Value.slice.injEq, Option.some.injEq, Addr.mk.injEq, and_true] at h0
    obtain ⟨rfl, _, _⟩ := h0
    exact (Array.getElem?_eq_some_iff.1 hh).1
/-- the state: two rows of truths, and the boxes that hold them -/
structure ND (w W : World) (Bn Bw gn gw n m : Nat) (ln lw : List Bool) : Prop where
  below : Below w.heap.size w W
  bn : Boxed W Bn 50 (.slice (some ⟨gn, 0, none⟩) n n)
  bw : Boxed W Bw 50 (.slice (some ⟨gw, 0, none⟩) m m)
  on : OwnB W w.heap.size (.slice (some ⟨gn, 0, none⟩) n n) ln
  ow : OwnB W w.heap.size (.slice (some ⟨gw, 0, none⟩) m m) lw
  ll : ln.length = n
  lm : lw.length = m
  hn : w.heap.size ≤ gn
  hw : w.heap.size ≤ gw
  ne : gn ≠ gw
section
variable {w W W' : World} {Bn Bw gn gw n m : Nat} {ln lw : List Bool}
theorem ND.keep (h : ND w W Bn Bw gn gw n m ln lw) (hb : Below w.heap.size w W') (e : ∀ (k : Nat) (o : Obj), W.heap[k]? = some o → o.isCells = true → W'.heap[k]? = some o) : ND w W' Bn Bw gn gw n m ln lw :=
  ⟨hb, e _ _ h.bn rfl, e _ _ h.bw rfl, h.on.heap (fun o h1 h2 => e _ o h1 h2), h.ow.heap (fun o h1 h2 => e _ o h1 h2), h.ll, h.lm, h.hn, h.hw, h.ne⟩
theorem ND.step (h : ND w W Bn Bw gn gw n m ln lw) (hb : Below W.heap.size W W') : ND w W' Bn Bw gn gw n m ln lw :=
  h.keep (h.below.trans (hb.mono h.below.size)) (fun k _ h1 _ => (hb.block k (Array.getElem?_eq_some_iff.1 h1).1).trans h1)
theorem IntsAt.storeW {v : Value} {l : List Int} {t : Nat} {d : Bool} (h : IntsAt W v l) (hn : ND w W Bn Bw gn gw n m ln lw) : IntsAt (W.setCell ⟨gw, t, none⟩ (.bool d)) v l := by
  obtain ⟨a, cap, h1, h2, h3, h4⟩ := h
  refine ⟨a, cap, h1, h2, h3, fun hne => ?_⟩
  obtain ⟨b, off, e, hc⟩ := h4 hne
  refine ⟨b, off, e, fun i hi => ?_⟩
  have hb : b ≠ gw := by rintro rfl; exact hn.ow.no_int hn.lm (hc i hi)
  rw [World.cell?_of_block (Below.heap_setCell W ⟨gw, t, none⟩ (.bool d) b hb)]
  exact hc i hi
theorem ND.storeN (h : ND w W Bn Bw gn gw n m ln lw) (k : Nat) (d : Bool) : ND w (W.setCell ⟨gn, k, none⟩ (.bool d)) Bn Bw gn gw n m (ln.set k d) lw :=
  ⟨h.below.setCell (p := ⟨gn, k, none⟩) h.hn _, (Below.heap_setCell W ⟨gn, k, none⟩ _ Bn (fun e => h.on.ne_cells h.bn (by decide) e.symm)).trans h.bn, (Below.heap_setCell W ⟨gn, k, none⟩ _ Bw (fun e => h.on.ne_cells h.bw (by decide) e.symm)).trans h.bw, h.on.store,
    h.ow.heap (fun o h1 _ => (Below.heap_setCell W ⟨gn, k, none⟩ _ gw (fun e => h.ne e.symm)).trans h1), by rw [List.length_set]; exact h.ll, h.lm, h.hn, h.hw, h.ne⟩
theorem ND.storeW (h : ND w W Bn Bw gn gw n m ln lw) (k : Nat) (d : Bool) : ND w (W.setCell ⟨gw, k, none⟩ (.bool d)) Bn Bw gn gw n m ln (lw.set k d) :=
  ⟨h.below.setCell (p := ⟨gw, k, none⟩) h.hw _, (Below.heap_setCell W ⟨gw, k, none⟩ _ Bn (fun e => h.ow.ne_cells h.bn (by decide) e.symm)).trans h.bn, (Below.heap_setCell W ⟨gw, k, none⟩ _ Bw (fun e => h.ow.ne_cells h.bw (by decide) e.symm)).trans h.bw,
    h.on.heap (fun o h1 _ => (Below.heap_setCell W ⟨gw, k, none⟩ _ gn h.ne).trans h1), h.ow.store, h.ll, by rw [List.length_set]; exact h.lm, h.hn, h.hw, h.ne⟩
end
/-- what a round keeps -/
def NI (outs : List Int) (code : List Ins) (w : World) (Bn Bw gn gw m hi : Nat) (pre : List (Fin code.length)) (W : World) : Prop :=
  ∃ ln lw, ND w W Bn Bw gn gw code.length m ln lw ∧ hi ≤ W.heap.size ∧ (∀ r : Nat, r < m → bl lw r = (nrun outs code (pre.map (fun x => x.1))).want r) ∧ (∀ k, k < code.length → bl ln k = (nrun outs code (pre.map (fun x => x.1))).need k)
theorem NI.from {outs : List Int} {code : List Ins} {w : World} {Bn Bw gn gw m hi B : Nat} (hB : w.heap.size ≤ B) : OwnFrom B (NI outs code w Bn Bw gn gw m hi) := fun _ W W' row ⟨ln, lw, h, hz, h1, h2⟩ hg hr =>
  ⟨ln, lw, h.keep (h.below.grown hg h.below.size (fun k hk => Nat.le_trans hB (hr k hk).1)) (fun k o e1 e2 => (hg.block k (Array.getElem?_eq_some_iff.1 e1).1 (fun e => by obtain ⟨_, o', ho, hc⟩ := hr k e.symm; rw [e1] at ho; cases ho; rw [e2] at hc; cases hc)).trans e1), Nat.le_trans hz hg.size, h1, h2⟩
theorem ko_below {W W' : World} (hb : Below W.heap.size W W') : KeepsOthers W W' := ⟨hb.size, fun k _ h _ => (hb.block k (Array.getElem?_eq_some_iff.1 h).1).trans h⟩
theorem keeps_below {lo hi : Nat} {W W' : World} (hb : Below W.heap.size W W') (h : hi ≤ W.heap.size) : Keeps lo hi W W' := fun k _ h2 => hb.block k (by omega)
theorem keeps_set {lo hi g o : Nat} (W : World) (v : Value) (h : g < lo) : Keeps lo hi W (W.setCell ⟨g, o, none⟩ v) := fun k h1 _ => Below.heap_setCell W ⟨g, o, none⟩ v k (by show k ≠ g; omega)
theorem keeps_alloc {lo hi : Nat} (W : World) (o : Obj) (h : hi ≤ W.heap.size) : Keeps lo hi W (W.alloc o) := fun k _ h2 => Below.heap_alloc _ _ _ (by omega)
def frF (a : Act) (code : List Ins) (ps : Array Tmp) (x : Fin code.length) (gx : Nat) : Act := { tmps := (((ps.zip (encF code x)).foldl (fun t (p, v) => t.setIfInBounds p v) a.tmps).setIfInBounds 10 (.int .i64 (x.1 : Nat))).setIfInBounds 11 (.pointer (some ⟨gx, 0, none⟩)), defers := [] }
theorem axF_from (B : Nat) (a' : Act) (f : Nat → Act) (x : Ins) : OwnFrom B (fun (_ : Unit) W => ∃ gx, a' = f gx ∧ Box5 W gx 34 x) := fun _ W W' row ⟨gx, e, h⟩ hg hr =>
  ⟨gx, e, (hg.block gx h.lt (fun e1 => by obtain ⟨_, o, ho, hc⟩ := hr gx e1.symm; rw [show W.heap[gx]? = _ from h] at ho; cases ho; cases hc)).trans h⟩
theorem range_need {code : List Ins} {g : Operand} {ps : Array Tmp} {assign body : Code} {Q : Exit → Act → World → Prop} {a : Act} {w : World} {n : Nat} (h1 : 1 ≤ n) {gf : Nat} {lb : Array Value} (hg : a.eval g = .func (.func gf) #[] lb) (eg : ∀ args w, (callFunc gf args).run Try.prog w = .ok (.enter gf args) w)
    {Kp : World → World → Prop} {w0 : World} (hseq : SeqStopsK Fence.wide (n - 1) Try.prog gf lb (encF code) Kp (fun ys => ys.map (fun x => x.1) = bks code.length code.length) (fun _ => True) code.length w0)
    (hKt : ∀ {A B C : World}, Kp A B → Kp B C → Kp A C) (hKb : ∀ (W : World) (l : Nat) (o o' : Obj), w.heap.size ≤ l → W.heap[l]? = some o → o.isCells = false → o.isWalk = false → Kp W (W.putObj l o')) (hb0 : Below w0.heap.size w0 w) (hps : ∀ x, (encF code x).size = ps.size)
    (I : List (Fin code.length) → World → Prop) (hI : OwnFrom w.heap.size I) (h0 : I [] w)
    (hassign : ∀ (l : Nat) (pre : List (Fin code.length)) (x : Fin code.length) (W : World) (K : Act → World → Prop), I pre W → (∀ a' W', KeepsFrom w.heap.size W W' → Kp W W' → I pre W' → (∃ gx, a' = frF a code ps x gx ∧ Box5 W' gx 34 (cd code x.1)) → K a' W') →
      assign.wpIn (Fence.wide.inRound l) (n - 1 - 1) Try.prog (Exit.then K (fun _ _ _ => False)) { tmps := (ps.zip (encF code x)).foldl (fun t (p, v) => t.setIfInBounds p v) a.tmps, defers := [] } W)
    (hbody : ∀ (l : Nat) (pre : List (Fin code.length)) (x : Fin code.length) (gx : Nat) (W : World), I pre W → Box5 W gx 34 (cd code x.1) → body.wpIn (Fence.wide.inRound l) (n - 1 - 1) Try.prog (ownPostG w.heap.size Kp I (fun _ _ _ => False) (pre ++ [x]) W) (frF a code ps x gx) W)
    (hdone : ∀ (D : Nat) (xs : List (Fin code.length)) (W : World), w.heap.size ≤ D → xs.map (fun x => x.1) = bks code.length code.length → I xs W → W.heap[D]? = some (.deferred (some [])) → Q .normal { a with defers := { target := .collected D, args := #[] } :: a.defers } W) :
    (Code.rangeFunc g ps assign body).wpIn Fence.wide n Try.prog Q a w :=
  wpIn_rangeFunc_ownH rfl h1 hg trivial eg hseq (fun h k => hKt h k) hKb hb0 hps I (fun _ _ _ => False) hI (fun _ => ownFrom_pure _ _) h0 (fun x a' W => ∃ gx, a' = frF a code ps x gx ∧ Box5 W gx 34 (cd code x.1)) (fun x a' => axF_from _ a' _ _) hassign
    (fun l pre x a' W _ _ hi ⟨gx, e, hb⟩ _ => by subst e; exact hbody l pre x gx W hi hb) hdone (fun _ _ _ _ _ _ h _ => h.elim)
theorem one_mark {n : Nat} {fn : Func} {t u : Tmp} (h : fn.results = #[.tmp t, .tmp u]) (tmps : Array Value) (We w : World) (g D c : Nat) (l : List Bool) (ht : tmps.getD t undef = .slice (some ⟨g, 0, none⟩) c c) (hu : tmps.getD u undef = .int .i64 0) (h1 : We.heap[D]? = some (.deferred (some [])))
    (hO : OwnB We w.heap.size (.slice (some ⟨g, 0, none⟩) c c) l) (hb : Below w.heap.size w We) (hw1 : w.heap.size ≤ D) :
    LeavesInM Fence.wide n Try.prog fn tmps (fun e w' => ∃ g, e = .returned (.tuple #[.slice (some ⟨g, 0, none⟩) c c, .int .i64 0]) ∧ OwnB w' w.heap.size (.slice (some ⟨g, 0, none⟩) c c) l ∧ Below w.heap.size w w') [{ target := .collected D, args := #[] }] .returning We := by
  refine ⟨by simp, .inl ⟨_, _, rfl, run_takeDeferred h1, ?_⟩⟩
  refine ⟨_, results_tmp2 h _ _ _, g, by rw [ht, hu], hO.heap (fun o e1 e2 => ?_), hb.trans (belowK_b (w := w) (Nat.le_refl _) We D _ (.deferred none) hw1 h1 rfl rfl)⟩
  have hne : g ≠ D := by rintro rfl; rw [e1] at h1; cases h1; cases e2
  exact (World.putObj_heap_other hne).trans e1
theorem want_step {outs : List Int} {code : List Ins} {pre : List (Fin code.length)} {x : Fin code.length} : nrun outs code ((pre ++ [x]).map (fun x => x.1)) = nstep code (nrun outs code (pre.map (fun x => x.1))) x.1 := by rw [List.map_append]; exact nrun_snoc _ _ _ _

set_option maxRecDepth 100000 in
set_option maxHeartbeats 8000000 in
theorem needed_wrong (v : Value) (p : Pg) (w : World) (h : PgAt w v p) (hr : rightB p = false) :
    Calls Try.prog 31 #[v] w fun e w' => e = .returned (.tuple #[.slice none 0 0, .int .i64 80]) ∧ Below w.heap.size w w' := by
  have HP := hide h
  obtain ⟨ca, cc, oa, oc, rfl, _, _⟩ := h
  go_enter Try.func31, Try.ntmps31
  go_upto_region 1 with fail
  have hb := below_alloc w (.cells #[.int .i64 p.ins, .int .i64 p.regs, .slice ca p.code.length cc, .slice oa p.outs.length oc] 25)
  have PX := hide (Box4.new w 25 (.int .i64 p.ins) (.int .i64 p.regs) (.slice ca p.code.length cc) (.slice oa p.outs.length oc))
  replace HP := hide (HP.out.below hb)
  have HB := hide hb
  clear hb
  generalize w.alloc (.cells #[.int .i64 p.ins, .int .i64 p.regs, .slice ca p.code.length cc, .slice oa p.outs.length oc] 25) = w1 at *
  obtain ⟨B, hB⟩ : ∃ B, B = w.heap.size := ⟨_, rfl⟩
  have HZ := hide hB
  rw [← hB] at PX ⊢
  clear hB
  have c0 := PX.out.cell0
  have c1 := PX.out.cell1
  have c2 := PX.out.cell2
  have c3 := PX.out.cell3
  go_wp2_with fail
  refine (check_any _ p _ HP.out).mono ?_
  rintro e w2 ⟨rfl, hb⟩
  replace HB := hide (HB.out.trans (hb.mono HB.out.size))
  clear hb
  rw [ck_wrong hr]
  generalize chkK p = kk
  go_wp2
  go_ret2
  exact ⟨rfl, HB.out⟩

set_option maxRecDepth 100000 in
set_option maxHeartbeats 16000000 in
theorem needed_right (v : Value) (p : Pg) (w : World) (h : PgAt w v p) (hr : rightB p = true) (hl4 : p.code.length ≤ 400) :
    Calls Try.prog 31 #[v] w fun e w' => ∃ g, e = .returned (.tuple #[.slice (some ⟨g, 0, none⟩) p.code.length p.code.length, .int .i64 0]) ∧ OwnB w' w.heap.size (.slice (some ⟨g, 0, none⟩) p.code.length p.code.length) (ndL p) ∧ Below w.heap.size w w' := by
  obtain ⟨i0, hi, hz0, hz1, hz2⟩ := info_parts info_bool
  obtain ⟨p1, p2, p3, p4, p5, p6, p7, p8⟩ := right_parts hr
  have P7 := hide p7
  have P8 := hide p8
  clear p7 p8
  have HP := hide h
  have HP0 := hide h
  obtain ⟨ca, cc, oa, oc, rfl, hc, ho⟩ := h
  have KO := hide ho
  clear hc ho
  obtain ⟨m, hm⟩ : ∃ m : Nat, p.regs = m := ⟨p.regs.toNat, by omega⟩
  have HM := hide hm
  clear hm
  refine callsIn_marksN (n := 3) Try.func31 rfl ?_
  simp only [Try.ntmps31, List.size_toArray, List.length_cons, List.length_nil, Nat.reduceAdd, Nat.reduceSub, Array.replicate_succ, Array.replicate_zero, List.push_toArray, List.append_toArray, List.nil_append, List.cons_append]
  go_upto_region 1 with fail
  have hb := below_alloc w (.cells #[.int .i64 p.ins, .int .i64 p.regs, .slice ca p.code.length cc, .slice oa p.outs.length oc] 25)
  have PX := hide (Box4.new w 25 (.int .i64 p.ins) (.int .i64 p.regs) (.slice ca p.code.length cc) (.slice oa p.outs.length oc))
  replace HP := hide (HP.out.below hb)
  have HB := hide hb
  clear hb
  generalize w.alloc (.cells #[.int .i64 p.ins, .int .i64 p.regs, .slice ca p.code.length cc, .slice oa p.outs.length oc] 25) = w1 at *
  obtain ⟨B, hB⟩ : ∃ B, B = w.heap.size := ⟨_, rfl⟩
  have HZ := hide hB
  rw [← hB] at PX ⊢
  clear hB
  have c0 := PX.out.cell0
  have c1 := PX.out.cell1
  have c2 := PX.out.cell2
  have c3 := PX.out.cell3
  go_wp2_with fail
  refine (check_any _ p _ HP.out).mono ?_
  rintro e w2 ⟨rfl, hb⟩
  replace PX := hide (PX.out.step hb)
  replace HB := hide (HB.out.trans (hb.mono HB.out.size))
  clear hb c0 c1 c2 c3 HP
  rw [ck_right hr]
  have hm := HM.out
  have c0 := PX.out.cell0
  have c1 := PX.out.cell1
  have c2 := PX.out.cell2
  have c3 := PX.out.cell3
  rw [hm] at c1
  go_wp2_with (at_make; refine wpList_make_full _ rfl _ _ 50 rfl w2.heap.size 4 i0 (.bool false) 1 Try.underlying50 hi hz0 hz1 _ _ _ _ p.code.length rfl rfl rfl rfl (by rw [hz2]; omega) (by unfold maxLen; omega) (Nat.le_refl _) ?_)
  intro w3 hown hgrow
  have hb : Below w2.heap.size w2 w3 := (Below.refl _ _).grown hgrow (Nat.le_refl _) (fun k hk => by simp at hk)
  have LN : (List.replicate p.code.length false).length = p.code.length := List.length_replicate ..
  have ON : Hid (OwnB w3 w.heap.size (.slice (some ⟨w2.heap.size, 0, none⟩) p.code.length p.code.length) (List.replicate p.code.length false)) := hide (own_base (by show World.ownsRow _ _ _ _ _ (List.replicate p.code.length false).length _; rw [LN, ← made_false]; simpa using hown) HB.out.size)
  have WN : Hid (w.heap.size ≤ w2.heap.size) := hide HB.out.size
  replace PX := hide (PX.out.step hb)
  replace HB := hide (HB.out.trans (hb.mono HB.out.size))
  clear hown hgrow hb LN c0 c1 c2 c3
  generalize w2.heap.size = gn at *
  have c0 := PX.out.cell0
  have c1 := PX.out.cell1
  have c2 := PX.out.cell2
  have c3 := PX.out.cell3
  rw [hm] at c1
  go_upto_region 5 with fail
  clear c0 c1 c2 c3
  have hb := below_alloc w3 (.cells #[.slice (some ⟨gn, 0, none⟩) p.code.length p.code.length] 50)
  have BN := hide (Boxed.new w3 50 (.slice (some ⟨gn, 0, none⟩) p.code.length p.code.length))
  replace PX := hide (PX.out.step hb)
  replace ON := hide (own_below ON.out hb)
  replace HB := hide (HB.out.trans (hb.mono HB.out.size))
  clear hb
  generalize w3.alloc (.cells #[.slice (some ⟨gn, 0, none⟩) p.code.length p.code.length] 50) = w4 at *
  generalize w3.heap.size = Bn at *
  have c0 := PX.out.cell0
  have c1 := PX.out.cell1
  have c2 := PX.out.cell2
  have c3 := PX.out.cell3
  rw [hm] at c1
  go_wp2_with (at_make; refine wpList_make_full _ rfl _ _ 50 rfl w4.heap.size 4 i0 (.bool false) 1 Try.underlying50 hi hz0 hz1 _ _ _ _ m rfl rfl rfl rfl (by rw [hz2]; omega) (by unfold maxLen; omega) (Nat.le_refl _) ?_)
  intro w5 hown hgrow
  have hb : Below w4.heap.size w4 w5 := (Below.refl _ _).grown hgrow (Nat.le_refl _) (fun k hk => by simp at hk)
  have LN : (List.replicate m false).length = m := List.length_replicate ..
  have OW : Hid (OwnB w5 w.heap.size (.slice (some ⟨w4.heap.size, 0, none⟩) m m) (List.replicate m false)) := hide (own_base (by show World.ownsRow _ _ _ _ _ (List.replicate m false).length _; rw [LN, ← made_false]; simpa using hown) HB.out.size)
  have WW : Hid (w.heap.size ≤ w4.heap.size) := hide HB.out.size
  have NW : Hid (gn ≠ w4.heap.size) := hide (Nat.ne_of_lt (ownB_lt ON.out))
  replace PX := hide (PX.out.step hb)
  replace ON := hide (own_below ON.out hb)
  replace BN := hide (boxed_step BN.out hb)
  replace HB := hide (HB.out.trans (hb.mono HB.out.size))
  clear hown hgrow hb LN c0 c1 c2 c3
  generalize w4.heap.size = gw at *
  have c0 := PX.out.cell0
  have c1 := PX.out.cell1
  have c2 := PX.out.cell2
  have c3 := PX.out.cell3
  rw [hm] at c1
  have lb : B < w5.heap.size := Box4.lt PX.out
  go_upto_region 7 with fail
  clear c0 c1 c2 c3 lb
  have hb := below_alloc w5 (.cells #[.slice (some ⟨gw, 0, none⟩) m m] 50)
  have BW := hide (Boxed.new w5 50 (.slice (some ⟨gw, 0, none⟩) m m))
  replace PX := hide (PX.out.step hb)
  replace ON := hide (own_below ON.out hb)
  replace OW := hide (own_below OW.out hb)
  replace BN := hide (boxed_step BN.out hb)
  replace HB := hide (HB.out.trans (hb.mono HB.out.size))
  clear hb
  generalize w5.alloc (.cells #[.slice (some ⟨gw, 0, none⟩) m m] 50) = w6 at *
  generalize w5.heap.size = Bw at *
  have N0 : Hid (ND w w6 Bn Bw gn gw p.code.length m (List.replicate p.code.length false) (List.replicate m false)) := hide ⟨HB.out, BN.out, BW.out, ON.out, OW.out, List.length_replicate .., List.length_replicate .., WN.out, WW.out, NW.out⟩
  clear HB BN BW ON OW WN WW NW hm
  go_loopw [32, 9] (fun av _ wr => ∃ (a : Nat) (lw : List Bool), a ≤ p.outs.length ∧ av = .int .i64 a ∧ ND w wr Bn Bw gn gw p.code.length m (List.replicate p.code.length false) lw ∧ Box4 wr B 25 (.int .i64 p.ins) (.int .i64 p.regs) (.slice ca p.code.length cc) (.slice oa p.outs.length oc) ∧ ∀ r : Nat, r < m → bl lw r = decide ((r : Int) ∈ p.outs.take a)) (fun av _ _ => p.outs.length - (intOf av).toNat)
  case atStart => exact ⟨0, _, Nat.zero_le _, rfl, N0.out, PX.out, fun r _ => by rw [bl_replicate]; simp⟩
  case round =>
    clear N0 PX
    obtain ⟨a, lw, ha, rfl, hN, hP, hQ⟩ := hrel
    have NN := hide hN
    have PX := hide hP
    have QQ := hide hQ
    clear hN hP hQ
    by_cases al : a < p.outs.length
    · obtain ⟨b, off, rfl, k1⟩ := (KO.out.below NN.out.below).at al
      obtain ⟨g1, g2⟩ := P7.out a al
      have TK := hide (fun r : Int => ot_take_mem (r := r) al)
      obtain ⟨q, hq⟩ : ∃ q, q = ot p.outs a := ⟨_, rfl⟩
      rw [← hq] at k1 g1 g2 TK
      clear hq
      obtain ⟨t, rfl⟩ : ∃ t : Nat, q = t := ⟨q.toNat, by omega⟩
      have tm : t < m := by have := HM.out; omega
      have tl : t < lw.length := by rw [NN.out.lm]; exact tm
      have cw := NN.out.bw.cell
      have ct := NN.out.ow.cell tl
      have ft := NN.out.ow.frozen t
      clear g1 g2
      go_wp2
      go_roundw
      case rel => exact ⟨a + 1, lw.set t true, by omega, by go_num, NN.out.storeW t true, PX.out.set_ne (fun e => NN.out.ow.ne_cells PX.out (by decide) e) _, fun r hr => by
        rw [bl_set tl, TK.out]
        by_cases e : r = t
        · subst e; simp
        · have e' : ¬ (t : Int) = r := by omega
          rw [if_neg e, QQ.out r hr]; simp [e']⟩
      case measure => simp [intOf]; omega
    · have e : a = p.outs.length := by omega
      subst e
      rw [List.take_length] at QQ
      have c0 := PX.out.cell0
      have c1 := PX.out.cell1
      have c2 := PX.out.cell2
      have c3 := PX.out.cell3
      go_wp2_with fail
      refine (back_any _ p _ (HP0.out.below NN.out.below) hl4 p.code (by rw [hr]; rfl)).mono ?_
      rintro e w8 ⟨⟨bx, vb, rfl, hx1, hx2, hxc, hO⟩, hb⟩
      clear c0 c1 c2 c3
      have L1 : Hid (gn < wr.heap.size) := hide (ownB_lt NN.out.on)
      have L2 : Hid (gw < wr.heap.size) := hide (ownB_lt NN.out.ow)
      have WR : Hid (w.heap.size ≤ wr.heap.size) := hide NN.out.below.size
      have HW8 := hide hb.size
      have N8 := hide (NN.out.step hb)
      clear hb NN PX
      have X1 := hide hx1
      have X2 := hide hx2
      have CX := hide hxc
      have OC := hide hO
      clear hx1 hx2 hxc hO
      generalize wr.heap.size = lo at *
      go_wp2_with fail
      refine (wpIn_wide (n := 3)).1 ?_
      refine range_need (code := p.code) (by omega) (gf := 66) (lb := #[.pointer (some ⟨bx, 0, none⟩)]) rfl (enters_of Try.func66 (by kernel_rfl) rfl)
        (back_stopsF 2 (by omega) bx lo w8.heap.size lo vb p.code (by omega) w8 OC.out (Nat.le_refl _) rfl X1.out X2.out CX.out) Keeps.trans
        (fun W l o o' hl _ _ _ k _ h2 => by rw [World.putObj_heap_other (by omega)]) (Below.refl _ _) (fun _ => rfl)
        (NI p.outs p.code w Bn Bw gn gw m w8.heap.size) (NI.from (by have := WR.out; have := HW8.out; omega)) ⟨_, _, N8.out, Nat.le_refl _, fun r hr => QQ.out r hr, fun k _ => bl_replicate _ _⟩ ?assign ?body ?done
      case assign =>
        intro l pre x W K hI hK
        obtain ⟨ln, lw, hN, hz, e1, e2⟩ := hI
        obtain ⟨kx, hkx⟩ := x
        unfold encF encN
        dsimp only
        obtain ⟨xi, hxi⟩ : ∃ xi, xi = cd p.code kx := ⟨_, rfl⟩
        rw [← hxi]
        have HX := hide hxi
        clear hxi
        simp only [List.zip_toArray, List.zip_cons_cons, List.zip_nil_right, List.foldl_toArray', List.size_toArray, List.length_cons, List.length_nil, List.foldl_cons, List.foldl_nil, List.setIfInBounds_toArray, List.set_cons_succ, List.set_cons_zero]
        gi_wp2
        have b5 := Box5.new W 34 xi
        have ks := KeepsOthers.alloc W (.cells xi.vals 34)
        have kp := keeps_alloc (lo := lo) (hi := w8.heap.size) W (.cells xi.vals 34) hz
        have hN' := hN.step (below_alloc W (.cells xi.vals 34))
        have hz' := Nat.le_trans hz (below_alloc W (.cells xi.vals 34)).size
        unfold Ins.vals at b5 ks kp hN' hz'
        generalize W.alloc (.cells #[.int .i64 xi.op, .int .i64 xi.to, .int .i64 xi.a, .int .i64 xi.b, .int .i64 xi.c] 34) = W' at *
        generalize W.heap.size = gx at *
        exact hK _ _ (ks.from _) kp ⟨ln, lw, hN', hz', e1, e2⟩ ⟨gx, by simp only [frF, encF, encN, ← HX.out, List.zip_toArray, List.zip_cons_cons, List.zip_nil_right, List.foldl_toArray', List.size_toArray, List.length_cons, List.length_nil, List.foldl_cons, List.foldl_nil, List.setIfInBounds_toArray, List.set_cons_succ, List.set_cons_zero], by rw [← HX.out]; exact b5⟩
      case body =>
        rintro l pre x gx W ⟨ln, lw, hN, hz, e1, e2⟩ hbx
        have WS := hide (want_step (outs := p.outs) (pre := pre) (x := x))
        obtain ⟨kx, hkx⟩ := x
        dsimp only at hbx WS
        have MY := hide (P8.out kx hkx)
        unfold frF encF encN
        dsimp only
        unfold nstep at WS
        obtain ⟨xi, hxi⟩ : ∃ xi, xi = cd p.code kx := ⟨_, rfl⟩
        rw [← hxi] at hbx MY WS ⊢
        clear hxi
        simp only [List.zip_toArray, List.zip_cons_cons, List.zip_nil_right, List.foldl_toArray', List.size_toArray, List.length_cons, List.length_nil, List.foldl_cons, List.foldl_nil, List.setIfInBounds_toArray, List.set_cons_succ, List.set_cons_zero]
        obtain ⟨t, ht⟩ : ∃ t : Nat, xi.to = t := ⟨xi.to.toNat, by have := (may_parts MY.out).1; omega⟩
        have tm : t < m := by have := (may_parts MY.out).2.1; have := HM.out; omega
        have NN := hide hN
        have E1 := hide e1
        have E2 := hide e2
        have HT := hide ht
        have HZ8 := hide hz
        have BX := hide hbx
        clear hN e1 e2 hz hbx
        obtain ⟨s, hs⟩ : ∃ s, s = nrun p.outs p.code (pre.map (fun x => x.1)) := ⟨_, rfl⟩
        rw [← hs] at E1 E2 WS
        clear hs
        have tl : t < lw.length := by rw [NN.out.lm]; exact tm
        have kl : kx < ln.length := by rw [NN.out.ll]; exact hkx
        have cw := NN.out.bw.cell
        have cn := NN.out.bn.cell
        have ct := NN.out.ow.cell tl
        have y0 := BX.out.cells.cell0
        have y1 := BX.out.cells.cell1
        have y2 := BX.out.cells.cell2
        have y3 := BX.out.cells.cell3
        have y4 := BX.out.cells.cell4
        simp only [Nat.zero_add] at y1 y2 y3 y4
        rw [ht] at y1 ⊢
        rw [ht] at WS
        cases hb : bl lw t with
        | false =>
          rw [hb] at ct
          have hw : s.want t = false := by rw [← E1.out t tm]; exact hb
          rw [hw] at WS
          clear hb hw
          gi_wp2
          exact ⟨KeepsFrom.refl _ _, Keeps.refl _ _ _, ln, lw, NN.out, HZ8.out, fun r hr => by rw [WS.out]; simpa using E1.out r hr, fun k hk => by rw [WS.out]; simpa using E2.out k hk⟩
        | true =>
          rw [hb] at ct
          have hw : s.want t = true := by rw [← E1.out t tm]; exact hb
          rw [hw] at WS
          clear hb
          have HWN := hide hw
          clear hw
          have ck := NN.out.on.cell kl
          have fk := NN.out.on.frozen kx
          have ft := NN.out.ow.frozen t
          have ne1 : Bw ≠ gn := fun e => NN.out.on.ne_cells NN.out.bw (by decide) e.symm
          have ne2 : gx ≠ gn := fun e => NN.out.on.ne_cells BX.out (by decide) e.symm
          have ne3 : gw ≠ gn := fun e => NN.out.ne e.symm
          have ne4 : gx ≠ gw := fun e => NN.out.ow.ne_cells BX.out (by decide) e.symm
          gi_upto_region 17 with fail
          have N2 := hide ((NN.out.storeN kx true).storeW t false)
          have KO2 := hide ((KeepsOthers.setCell W ⟨gn, kx, none⟩ (.bool true)).trans (KeepsOthers.setCell _ ⟨gw, t, none⟩ (.bool false)))
          have KP2 := hide ((keeps_set (lo := lo) (hi := w8.heap.size) (o := kx) W (.bool true) L1.out).trans (keeps_set (lo := lo) (hi := w8.heap.size) (o := t) _ (.bool false) L2.out))
          have BX2 := hide ((BX.out.set_ne (C := gn) (o := kx) (fun e => ne2 e.symm) (.bool true)).set_ne (C := gw) (o := t) (fun e => ne4 e.symm) (.bool false))
          have HZ2 : Hid (w8.heap.size ≤ ((W.setCell ⟨gn, kx, none⟩ (.bool true)).setCell ⟨gw, t, none⟩ (.bool false)).heap.size) := hide (Nat.le_trans HZ8.out KO2.out.size)
          clear NN BX cw cn ct ck fk ft ne1 ne2 ne3 ne4 y0 y1 y2 y3 y4 HZ8
          generalize (W.setCell ⟨gn, kx, none⟩ (.bool true)).setCell ⟨gw, t, none⟩ (.bool false) = W2 at *
          have y0 := BX2.out.cells.cell0
          have y1 := BX2.out.cells.cell1
          have y2 := BX2.out.cells.cell2
          have y3 := BX2.out.cells.cell3
          have y4 := BX2.out.cells.cell4
          simp only [Nat.zero_add] at y1 y2 y3 y4
          rw [HT.out] at y1
          have AS : Hid (Calls Try.prog 54 #[.agg #[.int .i64 xi.op, .int .i64 (t : Int), .int .i64 xi.a, .int .i64 xi.b, .int .i64 xi.c]] W2 fun e w' => AsksR w' e xi ∧ Below W2.heap.size W2 w') := hide (by rw [← HT.out]; exact asks_any xi W2)
          gi_wp2_with (refine ⟨trivial, ?_⟩; gi_at_call 54; refine (CallsIn.inRound l (callsIn_wide.2 AS.out)).mono ?_; rintro e W3 ⟨⟨va, rfl, hva⟩, hb⟩; obtain ⟨a1, c1', rfl, _⟩ := id hva; have VA := hide hva; have N3 := hide (N2.out.step hb); have KO3 := hide (KO2.out.trans (ko_below hb)); have KP3 := hide (KP2.out.trans (keeps_below hb HZ2.out)); have HZ3 := hide (Nat.le_trans HZ2.out hb.size); clear hva hb)
          clear N2 KO2 KP2 BX2 HZ2 y0 y1 y2 y3 y4 AS
          gi_loopw [60, 13] (fun av _ wr => ∃ (a : Nat) (l2 : List Bool), a ≤ (asksL xi).length ∧ av = .int .i64 a ∧ ND w wr Bn Bw gn gw p.code.length m (ln.set kx true) l2 ∧ KeepsOthers W wr ∧ Keeps lo w8.heap.size W wr ∧ w8.heap.size ≤ wr.heap.size ∧ IntsAt wr (.slice a1 (asksL xi).length c1') (asksL xi) ∧ ∀ r : Nat, r < m → bl l2 r = (bl (lw.set t false) r || decide ((r : Int) ∈ (asksL xi).take a))) (fun av _ _ => (asksL xi).length - (intOf av).toNat)
          case atStart => exact ⟨0, _, Nat.zero_le _, rfl, N3.out, KO3.out, KP3.out, HZ3.out, VA.out, fun r _ => by simp⟩
          case round =>
            clear N3 KO3 KP3 HZ3 VA
            obtain ⟨a, l2, ha, rfl, hN, hKO, hKP, hz, hVA, hQ⟩ := hrel
            have NN := hide hN
            have KO3 := hide hKO
            have KP3 := hide hKP
            have HZ3 := hide hz
            have VA := hide hVA
            have QA := hide hQ
            clear hN hKO hKP hz hVA hQ
            by_cases al : a < (asksL xi).length
            · obtain ⟨b, off, rfl, k1⟩ := VA.out.at al
              have g1 := asks_may MY.out _ (ot_mem al)
              have TK := hide (fun r : Int => ot_take_mem (r := r) al)
              obtain ⟨q, hq⟩ : ∃ q, q = ot (asksL xi) a := ⟨_, rfl⟩
              rw [← hq] at k1 g1 TK
              clear hq
              obtain ⟨u, rfl⟩ : ∃ u : Nat, q = u := ⟨q.toNat, by omega⟩
              have um : u < m := by have := HM.out; omega
              have ul : u < l2.length := by rw [NN.out.lm]; exact um
              have cw := NN.out.bw.cell
              have cu := NN.out.ow.cell ul
              have fu := NN.out.ow.frozen u
              clear g1
              gi_wp2
              have a2 := asks_two xi
              have EW : Value.int .i64 (wrap64 ((a : Int) + 1)) = .int .i64 ((a + 1 : Nat) : Int) := congrArg _ (by unfold wrap64; omega)
              rw [EW]
              refine ⟨⟨a + 1, l2.set u true, by omega, rfl, NN.out.storeW u true, KO3.out.trans (KeepsOthers.setCell _ ⟨gw, u, none⟩ (.bool true)), KP3.out.trans (keeps_set (lo := lo) (hi := w8.heap.size) (o := u) _ (.bool true) L2.out), Nat.le_trans HZ3.out (KeepsOthers.setCell wr ⟨gw, u, none⟩ (.bool true)).size, VA.out.storeW NN.out, fun r hr => ?_⟩, by simp [intOf]; omega⟩
              rw [bl_set ul, TK.out]
              by_cases e : r = u
              · subst e; simp
              · have e' : ¬ (u : Int) = r := by omega
                rw [if_neg e, QA.out r hr]; simp [e']
            · have e : a = (asksL xi).length := by omega
              subst e
              rw [List.take_length] at QA
              gi_wp2
              refine ⟨KO3.out.from _, KP3.out, ln.set kx true, l2, NN.out, HZ3.out, fun r hr => ?_, fun k hk => ?_⟩
              · rw [WS.out, if_pos trivial]
                unfold nback
                rw [HT.out, HWN.out, if_pos rfl, QA.out r hr, bl_set tl]
                dsimp only
                rw [← E1.out r hr]
                by_cases e : r = t
                · subst e; simp
                · have e' : ¬ (r : Int) = t := by omega
                  rw [if_neg e]; simp [e', Bool.or_comm]
              · rw [WS.out, if_pos trivial, bl_set kl]
                by_cases e : k = kx
                · subst e; simp
                · rw [if_neg e, E2.out k hk]; simp [e]
      case done =>
        rintro D xs W hD hxs ⟨ln, lw, hN, hz, e1, e2⟩ hd
        have NN := hide hN
        have E2 := hide e2
        have HD := hide hD
        have HDD := hide hd
        have HXS := hide hxs
        clear hN hz e1 e2 hD hd hxs
        simp only [Exit.inBlock, Exit.then]
        refine (by assumption : ∀ a w, Code.wp Try.prog _ _ a w → _) _ _ ?_
        try simp only [List.setIfInBounds_toArray, List.set_cons_succ, List.set_cons_zero]
        have cn := NN.out.bn.cell
        go_wp2
        have e : ln = ndL p := bl_ext (by rw [NN.out.ll]; exact (need_length _ _).symm) (fun k hk => by
          have hk' : k < p.code.length := by rw [← NN.out.ll]; exact hk
          rw [E2.out k hk', HXS.out]
          exact nrun_all p.outs p.code k hk')
        exact one_mark rfl _ W w gn D p.code.length (ndL p) rfl rfl HDD.out (by rw [← e]; exact NN.out.on) NN.out.below (Nat.le_trans (Nat.le_trans WR.out HW8.out) HD.out)
end Go.Proofs.Ytcciojlbfaanmaa
