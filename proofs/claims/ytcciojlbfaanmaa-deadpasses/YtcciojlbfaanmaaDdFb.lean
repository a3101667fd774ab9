/- dead.toItself, dead.fromBehind: what is idle, and which beginnings are asked, in one way back. -/
import Derived.Test.YtcciojlbfaanmaaDdM
import Derived.Test.YtcciojlbfaanmaaPgNeed
import Derived.Test.YtcciojlbfaanmaaCalm
import Derived.Deep.Cut
namespace Go.Proofs.Ytcciojlbfaanmaa
open Go.RowKit Go.Shelf
attribute [local go_sem] Oper.semAt_some

set_option maxRecDepth 100000 in
theorem self_any (i : Ins) (w : World) : Calls Try.prog 65 #[.agg #[.int .i64 i.op, .int .i64 i.to, .int .i64 i.a, .int .i64 i.b, .int .i64 i.c]] w fun e w' => e = .returned (.bool (selfB i)) ∧ Below w.heap.size w w' := by
  obtain ⟨op, t, a, b, c⟩ := i
  unfold selfB
  dsimp only
  by_cases q1 : op = 1
  · subst q1
    by_cases q2 : t = a
    · subst q2
      go_enter Try.func65, Try.ntmps65
      go_wp2
      go_ret
      exact ⟨by simp, below_alloc _ _⟩
    · have q2' : (t == a) = false := by simpa using q2
      go_enter Try.func65, Try.ntmps65
      go_wp2
      go_ret
      exact ⟨by simp [q2], below_alloc _ _⟩
  · have q1' : (op == 1) = false := by simpa using q1
    go_enter Try.func65, Try.ntmps65
    go_wp2
    go_ret
    exact ⟨by simp [q1], below_alloc _ _⟩
theorem run_makeB (n : Nat) (hn : n ≤ 1000000) (w : World) :
    (Instr.makeSlice 50 (.int .i64 n) (.int .i64 n)).run Try.prog w = .ok (.slice (some ⟨w.heap.size, 0, none⟩) n n) (w.alloc (.cells (madeCells #[.bool false] n) 4)) := by
  obtain ⟨i0, hi, hz0, hz1, hz2⟩ := info_parts info_bool
  have hr := run_make (P := Try.prog) w 50 4 i0 (.bool false) Try.underlying50 hi hz0 .i64 .i64 n n (by omega) (Int.le_refl _) (by rw [hz2]; omega) (by omega)
  rw [hr]
  simp only [Int.toNat_natCast, hz1, Nat.mul_one]
  rfl
theorem OwnB.below {w w' : World} {base : Nat} {v : Value} {l : List Bool} (h : OwnB w base v l) (hb : Below w.heap.size w w') : OwnB w' base v l := own_below h hb
theorem OwnB.new (w : World) (base n : Nat) (hn : n ≤ 1000000) (hb : base ≤ w.heap.size) : OwnB (w.alloc (.cells (madeCells #[.bool false] n) 4)) base (.slice (some ⟨w.heap.size, 0, none⟩) n n) (List.replicate n false) := by
  have e : (List.replicate n false).length = n := List.length_replicate ..
  show World.ownsRow _ _ _ _ _ (List.replicate n false).length _
  rw [e]
  refine ⟨by simp [boolCells], .inr ⟨w.heap.size, n, madeCells #[.bool false] n, rfl, hb, heap_alloc_new _ _, Nat.le_refl _, by unfold maxLen; omega, ?_, ?_⟩⟩
  · have := congrArg List.length (made_false n)
    simpa [boolCells] using this
  · rw [made_false]
    exact List.take_of_length_le (by simp [boolCells])
/-- the two rows, made one behind the other, in either order -/
theorem two_rows {y w0 : World} {Bn Bw n m s : Nat} {x1 x2 : Value} (bel : Below w0.heap.size w0 y) (hs : y.heap.size = s) (h1 : Boxed y Bn 50 x1) (h2 : Boxed y Bw 50 x2) (hn : n ≤ 1000000) (hm : m ≤ 1000000) :
    (x1 = .slice (some ⟨s, 0, none⟩) n n → x2 = .slice (some ⟨s + 1, 0, none⟩) m m → ND w0 ((y.alloc (.cells (madeCells #[.bool false] n) 4)).alloc (.cells (madeCells #[.bool false] m) 4)).drew Bn Bw s (s + 1) n m (List.replicate n false) (List.replicate m false)) ∧
    (x1 = .slice (some ⟨s + 1, 0, none⟩) n n → x2 = .slice (some ⟨s, 0, none⟩) m m → ND w0 ((y.alloc (.cells (madeCells #[.bool false] m) 4)).alloc (.cells (madeCells #[.bool false] n) 4)).drew Bn Bw (s + 1) s n m (List.replicate n false) (List.replicate m false)) := by
  have sz := bel.size
  subst hs
  constructor
  · rintro rfl rfl
    have a1 := below_alloc y (.cells (madeCells #[.bool false] n) 4)
    have a2 := (below_alloc (y.alloc (.cells (madeCells #[.bool false] n) 4)) (.cells (madeCells #[.bool false] m) 4)).drew
    have o1 := (OwnB.new y w0.heap.size n hn sz).below a2
    have o2 := (OwnB.new (y.alloc (.cells (madeCells #[.bool false] n) 4)) w0.heap.size m hm (Nat.le_trans sz a1.size)).below (Below.refl _ _).drew
    rw [World.size_alloc] at o2
    exact ⟨((bel.trans (a1.mono sz)).trans (a2.mono (Nat.le_trans sz a1.size))), boxed_step (boxed_step h1 a1) a2, boxed_step (boxed_step h2 a1) a2, o1, o2, List.length_replicate .., List.length_replicate .., sz, by omega, by omega⟩
  · rintro rfl rfl
    have a1 := below_alloc y (.cells (madeCells #[.bool false] m) 4)
    have a2 := (below_alloc (y.alloc (.cells (madeCells #[.bool false] m) 4)) (.cells (madeCells #[.bool false] n) 4)).drew
    have o1 := (OwnB.new y w0.heap.size m hm sz).below a2
    have o2 := (OwnB.new (y.alloc (.cells (madeCells #[.bool false] m) 4)) w0.heap.size n hn (Nat.le_trans sz a1.size)).below (Below.refl _ _).drew
    rw [World.size_alloc] at o2
    exact ⟨((bel.trans (a1.mono sz)).trans (a2.mono (Nat.le_trans sz a1.size))), boxed_step (boxed_step h1 a1) a2, boxed_step (boxed_step h2 a1) a2, o2, o1, List.length_replicate .., List.length_replicate .., by omega, sz, by omega⟩
def NJ (outs : List Int) (code : List Ins) (w : World) (Bn Bw gn gw m hi : Nat) (pre : List (Fin code.length)) (W : World) : Prop :=
  ∃ ln lw, ND w W Bn Bw gn gw code.length m ln lw ∧ hi ≤ W.heap.size ∧ (∀ r : Nat, r < m → bl lw r = (irun outs code (pre.map (fun x => x.1))).want r) ∧ (∀ k, k < code.length → bl ln k = (irun outs code (pre.map (fun x => x.1))).need k)
theorem NJ.from {outs : List Int} {code : List Ins} {w : World} {Bn Bw gn gw m hi B : Nat} (hB : w.heap.size ≤ B) : OwnFrom B (NJ outs code w Bn Bw gn gw m hi) := fun _ W W' row ⟨ln, lw, h, hz, h1, h2⟩ hg hr =>
  ⟨ln, lw, h.keep (h.below.grown hg h.below.size (fun k hk => Nat.le_trans hB (hr k hk).1)) (fun k o e1 e2 => (hg.block k (Array.getElem?_eq_some_iff.1 e1).1 (fun e => by obtain ⟨_, o', ho, hc⟩ := hr k e.symm; rw [e1] at ho; cases ho; rw [e2] at hc; cases hc)).trans e1), Nat.le_trans hz hg.size, h1, h2⟩
def frB (a : Act) (code : List Ins) (ps : Array Tmp) (x : Fin code.length) (gx : Nat) : Act := { tmps := (((ps.zip (encF code x)).foldl (fun t (p, v) => t.setIfInBounds p v) a.tmps).setIfInBounds 6 (.int .i64 (x.1 : Nat))).setIfInBounds 7 (.pointer (some ⟨gx, 0, none⟩)), defers := [] }
theorem axB_from (B : Nat) (a' : Act) (f : Nat → Act) (x : Ins) : OwnFrom B (fun (_ : Unit) W => ∃ gx, a' = f gx ∧ Box5 W gx 34 x) := fun _ W W' row ⟨gx, e, h⟩ hg hr =>
  ⟨gx, e, (hg.block gx h.lt (fun e1 => by obtain ⟨_, o, ho, hc⟩ := hr gx e1.symm; rw [show W.heap[gx]? = _ from h] at ho; cases ho; cases hc)).trans h⟩
theorem range_fb {code : List Ins} {g : Operand} {ps : Array Tmp} {assign body : Code} {Q : Exit → Act → World → Prop} {a : Act} {w : World} {n : Nat} (h1 : 1 ≤ n) {gf : Nat} {lb : Array Value} (hg : a.eval g = .func (.func gf) #[] lb) (eg : ∀ args w, (callFunc gf args).run Try.prog w = .ok (.enter gf args) w)
    {Kp : World → World → Prop} {w0 : World} (hseq : SeqStopsK Fence.wide (n - 1) Try.prog gf lb (encF code) Kp (fun ys => ys.map (fun x => x.1) = bks code.length code.length) (fun _ => True) code.length w0)
    (hKt : ∀ {A B C : World}, Kp A B → Kp B C → Kp A C) (hKb : ∀ (W : World) (l : Nat) (o o' : Obj), w.heap.size ≤ l → W.heap[l]? = some o → o.isCells = false → o.isWalk = false → Kp W (W.putObj l o')) (hb0 : Below w0.heap.size w0 w) (hps : ∀ x, (encF code x).size = ps.size)
    (I : List (Fin code.length) → World → Prop) (hI : OwnFrom w.heap.size I) (h0 : I [] w)
    (hassign : ∀ (l : Nat) (pre : List (Fin code.length)) (x : Fin code.length) (W : World) (K : Act → World → Prop), I pre W → (∀ a' W', KeepsFrom w.heap.size W W' → Kp W W' → I pre W' → (∃ gx, a' = frB a code ps x gx ∧ Box5 W' gx 34 (cd code x.1)) → K a' W') →
      assign.wpIn (Fence.wide.inRound l) (n - 1 - 1) Try.prog (Exit.then K (fun _ _ _ => False)) { tmps := (ps.zip (encF code x)).foldl (fun t (p, v) => t.setIfInBounds p v) a.tmps, defers := [] } W)
    (hbody : ∀ (l : Nat) (pre : List (Fin code.length)) (x : Fin code.length) (gx : Nat) (W : World), I pre W → Box5 W gx 34 (cd code x.1) → body.wpIn (Fence.wide.inRound l) (n - 1 - 1) Try.prog (ownPostG w.heap.size Kp I (fun _ _ _ => False) (pre ++ [x]) W) (frB a code ps x gx) W)
    (hdone : ∀ (D : Nat) (xs : List (Fin code.length)) (W : World), w.heap.size ≤ D → xs.map (fun x => x.1) = bks code.length code.length → I xs W → W.heap[D]? = some (.deferred (some [])) → Q .normal { a with defers := { target := .collected D, args := #[] } :: a.defers } W) :
    (Code.rangeFunc g ps assign body).wpIn Fence.wide n Try.prog Q a w :=
  wpIn_rangeFunc_ownH rfl h1 hg trivial eg hseq (fun h k => hKt h k) hKb hb0 hps I (fun _ _ _ => False) hI (fun _ => ownFrom_pure _ _) h0 (fun x a' W => ∃ gx, a' = frB a code ps x gx ∧ Box5 W gx 34 (cd code x.1)) (fun x a' => axB_from _ a' _ _) hassign
    (fun l pre x a' W _ _ hi ⟨gx, e, hb⟩ _ => by subst e; exact hbody l pre x gx W hi hb) hdone (fun _ _ _ _ _ _ h _ => h.elim)
theorem iwant_step {outs : List Int} {code : List Ins} {pre : List (Fin code.length)} {x : Fin code.length} : irun outs code ((pre ++ [x]).map (fun x => x.1)) = istep code (irun outs code (pre.map (fun x => x.1))) x.1 := by rw [List.map_append]; exact irun_snoc _ _ _ _
/-- two results in boxes -/
theorem res_bb {fn : Func} {p q : Tmp} (h : fn.results = #[.cell p 50, .cell q 50]) (tmps : Array Value) (w : World) (g g2 : Nat) (x y : Value) (hp : tmps.getD p undef = .pointer (some ⟨g, 0, none⟩)) (hq : tmps.getD q undef = .pointer (some ⟨g2, 0, none⟩)) (hg : Boxed w g 50 x) (hg2 : Boxed w g2 50 y) :
    (results fn tmps).run Try.prog w = .ok (.tuple #[x, y]) w := by
  have hp' : tmps[p]?.getD undef = .pointer (some ⟨g, 0, none⟩) := by simpa using hp
  have hq' : tmps[q]?.getD undef = .pointer (some ⟨g2, 0, none⟩) := by simpa using hq
  have c1 := hg.cell
  have c2 := hg2.cell
  simp [results, h, hp', hq', asAddr, loadVar, c1, c2]
theorem bb_mark {n : Nat} {fn : Func} {t u : Tmp} (h : fn.results = #[.cell t 50, .cell u 50]) (tmps : Array Value) (We w : World) (g g2 D : Nat) (x y : Value) (ht : tmps.getD t undef = .pointer (some ⟨g, 0, none⟩)) (hu : tmps.getD u undef = .pointer (some ⟨g2, 0, none⟩)) (h1 : We.heap[D]? = some (.deferred (some [])))
    (bn : Boxed We g 50 x) (bw : Boxed We g2 50 y) {R : Ending → World → Prop} (hR : ∀ V, (∀ (k : Nat) (o : Obj), We.heap[k]? = some o → o.isCells = true → V.heap[k]? = some o) → Below w.heap.size w V → R (.returned (.tuple #[x, y])) V) (hb : Below w.heap.size w We) (hw1 : w.heap.size ≤ D) :
    LeavesInM Fence.wide n Try.prog fn tmps R [{ target := .collected D, args := #[] }] .returning We := by
  have keep : ∀ (k : Nat) (o : Obj), We.heap[k]? = some o → o.isCells = true → (We.putObj D (.deferred none)).heap[k]? = some o := fun k o e1 e2 => by
    have hne : k ≠ D := by rintro rfl; rw [e1] at h1; cases h1; cases e2
    exact (World.putObj_heap_other hne).trans e1
  refine ⟨by simp, .inl ⟨_, _, rfl, run_takeDeferred h1, ?_⟩⟩
  exact ⟨_, res_bb h tmps _ g g2 x y ht hu (keep _ _ bn rfl) (keep _ _ bw rfl), hR _ keep (hb.trans (belowK_b (w := w) (Nat.le_refl _) We D _ (.deferred none) hw1 h1 rfl rfl))⟩
theorem ND.again {w W : World} {Bn Bw gn gw n m : Nat} {ln lw : List Bool} (h : ND w W Bn Bw gn gw n m ln lw) (n1 : Bn ≠ Bw) (hn : w.heap.size ≤ Bn) (hw : w.heap.size ≤ Bw) : ND w ((W.setCell ⟨Bn, 0, none⟩ (.slice (some ⟨gn, 0, none⟩) n n)).setCell ⟨Bw, 0, none⟩ (.slice (some ⟨gw, 0, none⟩) m m)).drew Bn Bw gn gw n m ln lw := by
  have hs : ∀ (z : World) (b : Nat) (v : Value) (k : Nat), k ≠ b → (z.setCell ⟨b, 0, none⟩ v).heap[k]? = z.heap[k]? := fun z b v k h => Below.heap_setCell z ⟨b, 0, none⟩ v k h
  have q1 := fun e => h.on.ne_cells h.bn (by decide) e
  have q2 := fun e => h.on.ne_cells h.bw (by decide) e
  have q3 := fun e => h.ow.ne_cells h.bn (by decide) e
  have q4 := fun e => h.ow.ne_cells h.bw (by decide) e
  have k2 : Boxed (W.setCell ⟨Bn, 0, none⟩ (.slice (some ⟨gn, 0, none⟩) n n)) Bw _ _ := (hs _ _ _ _ (Ne.symm n1)).trans h.bw
  exact ⟨((h.below.setCell (p := ⟨Bn, 0, none⟩) hn _).setCell (p := ⟨Bw, 0, none⟩) hw _).drew, (hs _ _ _ _ n1).trans (h.bn.set _), k2.set _,
    h.on.heap (fun o e _ => (hs _ _ _ _ q2).trans ((hs _ _ _ _ q1).trans e)), h.ow.heap (fun o e _ => (hs _ _ _ _ q4).trans ((hs _ _ _ _ q3).trans e)), h.ll, h.lm, h.hn, h.hw, h.ne⟩
/-- what fromBehind answers -/
def FbR (w0 w' : World) (e : Ending) (p : Pg) : Prop := ∃ gn gw, e = .returned (.tuple #[.slice (some ⟨gn, 0, none⟩) p.code.length p.code.length, .slice (some ⟨gw, 0, none⟩) p.regs.toNat p.regs.toNat]) ∧ OwnB w' w0.heap.size (.slice (some ⟨gn, 0, none⟩) p.code.length p.code.length) (idL p) ∧ OwnB w' w0.heap.size (.slice (some ⟨gw, 0, none⟩) p.regs.toNat p.regs.toNat) (askd p)
set_option maxHeartbeats 8000000 in
theorem fb_any (v : Value) (p : Pg) (w : World) (h : PgAt w v p) (hr : rightB p = true) (hl4 : p.code.length ≤ 400) :
    Calls Try.prog 49 #[v] w fun e w' => FbR w w' e p ∧ Below w.heap.size w w' := by
  obtain ⟨p1, p2, p3, p4, p5, p6, p7, p8⟩ := right_parts hr
  have P7 := hide p7
  have P8 := hide p8
  clear p7 p8
  have HP := hide h
  have HP0 := hide h
  obtain ⟨ca, cc, oa, oc, rfl, hc, ho⟩ := h
  have KO := hide ho
  clear hc ho
  obtain ⟨m, hm⟩ : ∃ m : Nat, p.regs = m := ⟨p.regs.toNat, by omega⟩
  have HM := hide hm
  have hml : m ≤ 128 := by omega
  clear hm
  refine callsIn_marksN (n := 3) Try.func49 rfl ?_
  simp only [Try.ntmps49, List.size_toArray, List.length_cons, List.length_nil, Nat.reduceAdd, Nat.reduceSub, Array.replicate_succ, Array.replicate_zero, List.push_toArray, List.append_toArray, List.nil_append, List.cons_append]
  go_upto_region 1 with fail
  have b1 := below_alloc w (.cells #[.int .i64 p.ins, .int .i64 p.regs, .slice ca p.code.length cc, .slice oa p.outs.length oc] 25)
  have b2 := below_alloc (w.alloc (.cells #[.int .i64 p.ins, .int .i64 p.regs, .slice ca p.code.length cc, .slice oa p.outs.length oc] 25)) (.cells #[.slice none 0 0] 50)
  have b3 := below_alloc ((w.alloc (.cells #[.int .i64 p.ins, .int .i64 p.regs, .slice ca p.code.length cc, .slice oa p.outs.length oc] 25)).alloc (.cells #[.slice none 0 0] 50)) (.cells #[.slice none 0 0] 50)
  have PX := hide (((Box4.new w 25 (.int .i64 p.ins) (.int .i64 p.regs) (.slice ca p.code.length cc) (.slice oa p.outs.length oc)).step b2).step b3)
  have XN := hide (boxed_step (Boxed.new (w.alloc (.cells #[.int .i64 p.ins, .int .i64 p.regs, .slice ca p.code.length cc, .slice oa p.outs.length oc] 25)) 50 (.slice none 0 0)) b3)
  have XW := hide (Boxed.new ((w.alloc (.cells #[.int .i64 p.ins, .int .i64 p.regs, .slice ca p.code.length cc, .slice oa p.outs.length oc] 25)).alloc (.cells #[.slice none 0 0] 50)) 50 (.slice none 0 0))
  simp only [World.size_alloc] at XN XW
  have HB := hide ((b1.trans (b2.mono b1.size)).trans (b3.mono (Nat.le_trans b1.size b2.size)))
  replace HP := hide (((HP.out.below b1).below b2).below b3)
  clear b1 b2 b3
  generalize ((w.alloc (.cells #[.int .i64 p.ins, .int .i64 p.regs, .slice ca p.code.length cc, .slice oa p.outs.length oc] 25)).alloc (.cells #[.slice none 0 0] 50)).alloc (.cells #[.slice none 0 0] 50) = w1 at *
  obtain ⟨B, hB⟩ : ∃ B, B = w.heap.size := ⟨_, rfl⟩
  obtain ⟨Bn, hBn⟩ : ∃ Bn, Bn = w.heap.size + 1 := ⟨_, rfl⟩
  obtain ⟨Bw, hBw⟩ : ∃ Bw, Bw = w.heap.size + 1 + 1 := ⟨_, rfl⟩
  have HZ := hide (And.intro hB (And.intro hBn hBw))
  rw [← hBw] at XW ⊢
  rw [← hBn] at XN ⊢
  rw [← hB] at PX ⊢
  clear hB hBn hBw
  go_cut [] from 10 (fun wx => ∃ gn gw, ND w wx Bn Bw gn gw p.code.length m (List.replicate p.code.length false) (List.replicate m false) ∧ Box4 wx B 25 (.int .i64 p.ins) (.int .i64 p.regs) (.slice ca p.code.length cc) (.slice oa p.outs.length oc))
  case first =>
    have hmk1 := run_makeB p.code.length (by omega)
    have hmk2 := run_makeB m (by omega)
    have c0 := PX.out.cell0
    have c1 := PX.out.cell1
    have c2 := PX.out.cell2
    have c3 := PX.out.cell3
    have lb := Box4.lt PX.out
    have xn := XN.out.cell
    have xw := XW.out.cell
    have ln := XN.out.lt
    have lw := XW.out.lt
    have fn := XN.out.frozen
    have fw := XW.out.frozen
    rw [HM.out] at c1
    have nBB : Bn ≠ Bw := by have := HZ.out; omega
    go_region
    · go_wp2
      go_meet
      case rel =>
        have k1 : Boxed ((w1.setCell ⟨Bn, 0, none⟩ (.slice (some ⟨w1.heap.size, 0, none⟩) p.code.length p.code.length)).setCell ⟨Bw, 0, none⟩ (.slice (some ⟨w1.heap.size + 1, 0, none⟩) m m)) Bn 50 (.slice (some ⟨w1.heap.size, 0, none⟩) p.code.length p.code.length) := (Below.heap_setCell _ ⟨Bw, 0, none⟩ _ Bn nBB).trans (XN.out.set _)
        have k2 : Boxed ((w1.setCell ⟨Bn, 0, none⟩ (.slice (some ⟨w1.heap.size, 0, none⟩) p.code.length p.code.length)).setCell ⟨Bw, 0, none⟩ (.slice (some ⟨w1.heap.size + 1, 0, none⟩) m m)) Bw 50 (.slice (some ⟨w1.heap.size + 1, 0, none⟩) m m) := (show Boxed (w1.setCell ⟨Bn, 0, none⟩ (.slice (some ⟨w1.heap.size, 0, none⟩) p.code.length p.code.length)) Bw 50 _ from (Below.heap_setCell _ ⟨Bn, 0, none⟩ _ Bw (Ne.symm nBB)).trans XW.out).set _
        have k3 : Box4 ((w1.setCell ⟨Bn, 0, none⟩ (.slice (some ⟨w1.heap.size, 0, none⟩) p.code.length p.code.length)).setCell ⟨Bw, 0, none⟩ (.slice (some ⟨w1.heap.size + 1, 0, none⟩) m m)) B 25 (.int .i64 p.ins) (.int .i64 p.regs) (.slice ca p.code.length cc) (.slice oa p.outs.length oc) := (PX.out.set_ne (by have := HZ.out; omega) _).set_ne (by have := HZ.out; omega) _
        have bl := (HB.out.setCell (p := ⟨Bn, 0, none⟩) (by have := HZ.out; show w.heap.size ≤ Bn; omega) (.slice (some ⟨w1.heap.size, 0, none⟩) p.code.length p.code.length)).setCell (p := ⟨Bw, 0, none⟩) (by have := HZ.out; show w.heap.size ≤ Bw; omega) (.slice (some ⟨w1.heap.size + 1, 0, none⟩) m m)
        exact ⟨_, _, (two_rows bl (s := w1.heap.size) (by simp [World.setCell]) k1 k2 (by omega) (by omega)).1 rfl rfl, ((k3.step (below_alloc _ _)).step (below_alloc _ _).drew)⟩
    · go_wp2
      go_meet
      case rel =>
        have k1 : Boxed ((w1.setCell ⟨Bn, 0, none⟩ (.slice (some ⟨w1.heap.size + 1, 0, none⟩) p.code.length p.code.length)).setCell ⟨Bw, 0, none⟩ (.slice (some ⟨w1.heap.size, 0, none⟩) m m)) Bn 50 (.slice (some ⟨w1.heap.size + 1, 0, none⟩) p.code.length p.code.length) := (Below.heap_setCell _ ⟨Bw, 0, none⟩ _ Bn nBB).trans (XN.out.set _)
        have k2 : Boxed ((w1.setCell ⟨Bn, 0, none⟩ (.slice (some ⟨w1.heap.size + 1, 0, none⟩) p.code.length p.code.length)).setCell ⟨Bw, 0, none⟩ (.slice (some ⟨w1.heap.size, 0, none⟩) m m)) Bw 50 (.slice (some ⟨w1.heap.size, 0, none⟩) m m) := (show Boxed (w1.setCell ⟨Bn, 0, none⟩ (.slice (some ⟨w1.heap.size + 1, 0, none⟩) p.code.length p.code.length)) Bw 50 _ from (Below.heap_setCell _ ⟨Bn, 0, none⟩ _ Bw (Ne.symm nBB)).trans XW.out).set _
        have k3 : Box4 ((w1.setCell ⟨Bn, 0, none⟩ (.slice (some ⟨w1.heap.size + 1, 0, none⟩) p.code.length p.code.length)).setCell ⟨Bw, 0, none⟩ (.slice (some ⟨w1.heap.size, 0, none⟩) m m)) B 25 (.int .i64 p.ins) (.int .i64 p.regs) (.slice ca p.code.length cc) (.slice oa p.outs.length oc) := (PX.out.set_ne (by have := HZ.out; omega) _).set_ne (by have := HZ.out; omega) _
        have bl := (HB.out.setCell (p := ⟨Bn, 0, none⟩) (by have := HZ.out; show w.heap.size ≤ Bn; omega) (.slice (some ⟨w1.heap.size + 1, 0, none⟩) p.code.length p.code.length)).setCell (p := ⟨Bw, 0, none⟩) (by have := HZ.out; show w.heap.size ≤ Bw; omega) (.slice (some ⟨w1.heap.size, 0, none⟩) m m)
        exact ⟨_, _, (two_rows bl (s := w1.heap.size) (by simp [World.setCell]) k1 k2 (by omega) (by omega)).2 rfl rfl, ((k3.step (below_alloc _ _)).step (below_alloc _ _).drew)⟩
  case rest =>
    obtain ⟨gn, gw, hN, hP⟩ := hcut
    have N0 := hide hN
    clear hN XN XW HP HB
    replace PX := hide hP
    clear hP
    have c0 := PX.out.cell0
    have c1 := PX.out.cell1
    have c2 := PX.out.cell2
    have c3 := PX.out.cell3
    go_upto_region 3 with fail
    clear c0 c1 c2 c3
    go_loopw [20, 5] (fun av _ wr => ∃ (a : Nat) (lw : List Bool), a ≤ p.outs.length ∧ av = .int .i64 a ∧ ND w wr Bn Bw gn gw p.code.length m (List.replicate p.code.length false) lw ∧ Box4 wr B 25 (.int .i64 p.ins) (.int .i64 p.regs) (.slice ca p.code.length cc) (.slice oa p.outs.length oc) ∧ ∀ r : Nat, r < m → bl lw r = decide ((r : Int) ∈ p.outs.take a)) (fun av _ _ => p.outs.length - (intOf av).toNat)
    case atStart => exact ⟨0, _, Nat.zero_le _, rfl, N0.out, PX.out, fun r _ => by rw [bl_replicate]; simp⟩
    case round =>
      clear N0 PX
      obtain ⟨a, lw, ha, rfl, hN, hP, hQ⟩ := hrel
      have NN := hide hN
      have PX := hide hP
      have QQ := hide hQ
      clear hN hP hQ
      by_cases al : a < p.outs.length
      · obtain ⟨b, off, rfl, k1⟩ := (KO.out.below NN.out.below).at al
        obtain ⟨g1, g2⟩ := P7.out a al
        have TK := hide (fun r : Int => ot_take_mem (r := r) al)
        obtain ⟨q, hq⟩ : ∃ q, q = ot p.outs a := ⟨_, rfl⟩
        rw [← hq] at k1 g1 g2 TK
        clear hq
        obtain ⟨t, rfl⟩ : ∃ t : Nat, q = t := ⟨q.toNat, by omega⟩
        have tm : t < m := by have := HM.out; omega
        have tl : t < lw.length := by rw [NN.out.lm]; exact tm
        have cw := NN.out.bw.cell
        have ct := NN.out.ow.cell tl
        have ft := NN.out.ow.frozen t
        clear g1 g2
        go_wp2
        go_roundw
        case rel => exact ⟨a + 1, lw.set t true, by omega, by go_num, NN.out.storeW t true, PX.out.set_ne (fun e => NN.out.ow.ne_cells PX.out (by decide) e) _, fun r hr => by
          rw [bl_set tl, TK.out]
          by_cases e : r = t
          · subst e; simp
          · have e' : ¬ (t : Int) = r := by omega
            rw [if_neg e, QQ.out r hr]; simp [e']⟩
        case measure => simp [intOf]; omega
      · have e : a = p.outs.length := by omega
        subst e
        rw [List.take_length] at QQ
        have c0 := PX.out.cell0
        have c1 := PX.out.cell1
        have c2 := PX.out.cell2
        have c3 := PX.out.cell3
        go_wp2_with fail
        refine (back_any _ p _ (HP0.out.below NN.out.below) hl4 p.code (by rw [hr]; rfl)).mono ?_
        rintro e w8 ⟨⟨bx, vb, rfl, hx1, hx2, hxc, hO⟩, hb⟩
        clear c0 c1 c2 c3
        have L1 : Hid (gn < wr.heap.size) := hide (ownB_lt NN.out.on)
        have L2 : Hid (gw < wr.heap.size) := hide (ownB_lt NN.out.ow)
        have N0L : Hid (Bn < wr.heap.size ∧ Bw < wr.heap.size) := hide ⟨Boxed.lt NN.out.bn, Boxed.lt NN.out.bw⟩
        have WR : Hid (w.heap.size ≤ wr.heap.size) := hide NN.out.below.size
        have HW8 := hide hb.size
        have N8 := hide (NN.out.step hb)
        clear hb NN PX
        have X1 := hide hx1
        have X2 := hide hx2
        have CX := hide hxc
        have OC := hide hO
        clear hx1 hx2 hxc hO
        generalize wr.heap.size = lo at *
        go_wp2_with fail
        refine (wpIn_wide (n := 3)).1 ?_
        refine range_fb (code := p.code) (by omega) (gf := 66) (lb := #[.pointer (some ⟨bx, 0, none⟩)]) rfl (enters_of Try.func66 (by kernel_rfl) rfl)
          (back_stopsF 2 (by omega) bx lo w8.heap.size lo vb p.code (by omega) w8 OC.out (Nat.le_refl _) rfl X1.out X2.out CX.out) Keeps.trans
          (fun W l o o' hl _ _ _ k _ h2 => by rw [World.putObj_heap_other (by omega)]) (Below.refl _ _) (fun _ => rfl)
          (NJ p.outs p.code w Bn Bw gn gw m w8.heap.size) (NJ.from (by have := WR.out; have := HW8.out; omega)) ⟨_, _, N8.out, Nat.le_refl _, fun r hr => QQ.out r hr, fun k _ => bl_replicate _ _⟩ ?assign ?body ?done
        case assign =>
          intro l pre x W K hI hK
          obtain ⟨ln, lw, hN, hz, e1, e2⟩ := hI
          obtain ⟨kx, hkx⟩ := x
          unfold encF encN
          dsimp only
          obtain ⟨xi, hxi⟩ : ∃ xi, xi = cd p.code kx := ⟨_, rfl⟩
          rw [← hxi]
          have HX := hide hxi
          clear hxi
          simp only [List.zip_toArray, List.zip_cons_cons, List.zip_nil_right, List.foldl_toArray', List.size_toArray, List.length_cons, List.length_nil, List.foldl_cons, List.foldl_nil, List.setIfInBounds_toArray, List.set_cons_succ, List.set_cons_zero]
          gi_wp2
          have b5 := Box5.new W 34 xi
          have ks := KeepsOthers.alloc W (.cells xi.vals 34)
          have kp := keeps_alloc (lo := lo) (hi := w8.heap.size) W (.cells xi.vals 34) hz
          have hN' := hN.step (below_alloc W (.cells xi.vals 34))
          have hz' := Nat.le_trans hz (below_alloc W (.cells xi.vals 34)).size
          unfold Ins.vals at b5 ks kp hN' hz'
          generalize W.alloc (.cells #[.int .i64 xi.op, .int .i64 xi.to, .int .i64 xi.a, .int .i64 xi.b, .int .i64 xi.c] 34) = W' at *
          generalize W.heap.size = gx at *
          exact hK _ _ (ks.from _) kp ⟨ln, lw, hN', hz', e1, e2⟩ ⟨gx, by simp only [frB, encF, encN, ← HX.out, List.zip_toArray, List.zip_cons_cons, List.zip_nil_right, List.foldl_toArray', List.size_toArray, List.length_cons, List.length_nil, List.foldl_cons, List.foldl_nil, List.setIfInBounds_toArray, List.set_cons_succ, List.set_cons_zero], by rw [← HX.out]; exact b5⟩
        case body =>
          rintro l pre x gx W ⟨ln, lw, hN, hz, e1, e2⟩ hbx
          have WS := hide (iwant_step (outs := p.outs) (pre := pre) (x := x))
          obtain ⟨kx, hkx⟩ := x
          dsimp only at hbx WS
          have MY := hide (P8.out kx hkx)
          unfold frB encF encN
          dsimp only
          unfold istep at WS
          obtain ⟨xi, hxi⟩ : ∃ xi, xi = cd p.code kx := ⟨_, rfl⟩
          rw [← hxi] at hbx MY WS ⊢
          clear hxi
          simp only [List.zip_toArray, List.zip_cons_cons, List.zip_nil_right, List.foldl_toArray', List.size_toArray, List.length_cons, List.length_nil, List.foldl_cons, List.foldl_nil, List.setIfInBounds_toArray, List.set_cons_succ, List.set_cons_zero]
          obtain ⟨t, ht⟩ : ∃ t : Nat, xi.to = t := ⟨xi.to.toNat, by have := (may_parts MY.out).1; omega⟩
          have tm : t < m := by have := (may_parts MY.out).2.1; have := HM.out; omega
          have NN := hide hN
          have E1 := hide e1
          have E2 := hide e2
          have HT := hide ht
          have HZ8 := hide hz
          have BX := hide hbx
          clear hN e1 e2 hz hbx
          obtain ⟨s, hs⟩ : ∃ s, s = irun p.outs p.code (pre.map (fun x => x.1)) := ⟨_, rfl⟩
          rw [← hs] at E1 E2 WS
          clear hs
          have tl : t < lw.length := by rw [NN.out.lm]; exact tm
          have kl : kx < ln.length := by rw [NN.out.ll]; exact hkx
          have cw := NN.out.bw.cell
          have cn := NN.out.bn.cell
          have ct := NN.out.ow.cell tl
          have y0 := BX.out.cells.cell0
          have y1 := BX.out.cells.cell1
          have y2 := BX.out.cells.cell2
          have y3 := BX.out.cells.cell3
          have y4 := BX.out.cells.cell4
          simp only [Nat.zero_add] at y1 y2 y3 y4
          rw [ht] at y1 ⊢
          rw [ht] at WS
          have AS0 : Hid (Calls Try.prog 65 #[.agg #[.int .i64 xi.op, .int .i64 (t : Int), .int .i64 xi.a, .int .i64 xi.b, .int .i64 xi.c]] W fun e w' => e = .returned (.bool (selfB xi)) ∧ Below W.heap.size W w') := hide (by rw [← HT.out]; exact self_any xi W)
          have ne1 : Bw ≠ gn := fun e => NN.out.on.ne_cells NN.out.bw (by decide) e.symm
          have ne2 : gx ≠ gn := fun e => NN.out.on.ne_cells BX.out (by decide) e.symm
          have ne3 : gw ≠ gn := fun e => NN.out.ne e.symm
          have ne4 : gx ≠ gw := fun e => NN.out.ow.ne_cells BX.out (by decide) e.symm
          have ne5 : Bn ≠ gw := fun e => NN.out.ow.ne_cells NN.out.bn (by decide) e.symm
          have EW : s.want t = bl lw t := (E1.out t tm).symm
          skip
          cases hb : bl lw t with
          | false =>
            rw [hb] at ct EW
            rw [EW] at WS
            replace WS := hide (WS.out.trans (if_pos (by simp)))
            have ck := NN.out.on.cell kl
            have fk := NN.out.on.frozen kx
            clear hb AS0
            gi_wp2
            refine ⟨trivial, ?_⟩
            gi_wp2
            exact ⟨(KeepsOthers.setCell W ⟨gn, kx, none⟩ (.bool true)).from _, keeps_set W (.bool true) L1.out, ln.set kx true, lw, NN.out.storeN kx true, Nat.le_trans HZ8.out (KeepsOthers.setCell W ⟨gn, kx, none⟩ (.bool true)).size, fun r hr => by rw [WS.out]; exact E1.out r hr, fun k hk => by
              rw [WS.out, bl_set kl]
              by_cases e : k = kx
              · subst e; simp
              · rw [if_neg e, E2.out k hk]; simp [e]⟩
          | true =>
            rw [hb] at EW
            rw [EW] at WS
            have HWN := hide EW
            cases hsf : selfB xi with
            | true =>
              rw [hsf] at AS0 WS
              replace WS := hide (WS.out.trans (if_pos (by simp)))
              rw [hb] at ct
              gi_wp2_with (refine ⟨trivial, ?_⟩; gi_at_call 65; refine (CallsIn.inRound l (callsIn_wide.2 AS0.out)).mono ?_; rintro e W3 ⟨rfl, hb3⟩; have N3 := hide (NN.out.step hb3); have KO3 := hide (ko_below hb3); have KP3 := hide (keeps_below (lo := lo) (hi := w8.heap.size) hb3 HZ8.out); have HZ3 := hide (Nat.le_trans HZ8.out hb3.size); have BX3 := hide (BX.out.step hb3); have cw3 := N3.out.bw.cell; have cn3 := N3.out.bn.cell; have ct3 := N3.out.ow.cell tl; rw [hb] at ct3; have ck3 := N3.out.on.cell kl; have fk3 := N3.out.on.frozen kx; have ft3 := N3.out.ow.frozen t; have z1 := BX3.out.cells.cell1; simp only [Nat.zero_add] at z1; rw [HT.out] at z1; clear hb3 cw cn ct y0 y1 y2 y3 y4)
              exact ⟨(KO3.out.trans (KeepsOthers.setCell W3 ⟨gn, kx, none⟩ (.bool true))).from _, KP3.out.trans (keeps_set W3 (.bool true) L1.out), ln.set kx true, lw, N3.out.storeN kx true, Nat.le_trans HZ3.out (KeepsOthers.setCell W3 ⟨gn, kx, none⟩ (.bool true)).size, fun r hr => by rw [WS.out]; exact E1.out r hr, fun k hk => by
                rw [WS.out, bl_set kl]
                by_cases e : k = kx
                · subst e; simp
                · rw [if_neg e, E2.out k hk]; simp [e]⟩
            | false =>
              rw [hsf] at AS0 WS
              replace WS := hide (WS.out.trans (if_neg (by simp)))
              rw [hb] at ct
              gi_upto_region 13 with (refine ⟨trivial, ?_⟩; gi_at_call 65; refine (CallsIn.inRound l (callsIn_wide.2 AS0.out)).mono ?_; rintro e W3 ⟨rfl, hb3⟩; have N3 := hide (NN.out.step hb3); have KO3 := hide (ko_below hb3); have KP3 := hide (keeps_below (lo := lo) (hi := w8.heap.size) hb3 HZ8.out); have HZ3 := hide (Nat.le_trans HZ8.out hb3.size); have BX3 := hide (BX.out.step hb3); have cw3 := N3.out.bw.cell; have cn3 := N3.out.bn.cell; have ct3 := N3.out.ow.cell tl; rw [hb] at ct3; have ck3 := N3.out.on.cell kl; have fk3 := N3.out.on.frozen kx; have ft3 := N3.out.ow.frozen t; have z1 := BX3.out.cells.cell1; simp only [Nat.zero_add] at z1; rw [HT.out] at z1; clear hb3 cw cn ct y0 y1 y2 y3 y4)
              have N2 := hide (N3.out.storeW t false)
              have KO2 := hide (KO3.out.trans (KeepsOthers.setCell W3 ⟨gw, t, none⟩ (.bool false)))
              have KP2 := hide (KP3.out.trans (keeps_set (lo := lo) (hi := w8.heap.size) (o := t) W3 (.bool false) L2.out))
              have BX2 := hide (BX3.out.set_ne (C := gw) (o := t) (fun e => ne4 e.symm) (.bool false))
              have HZ2 : Hid (w8.heap.size ≤ (W3.setCell ⟨gw, t, none⟩ (.bool false)).heap.size) := hide (Nat.le_trans HZ3.out (KeepsOthers.setCell W3 ⟨gw, t, none⟩ (.bool false)).size)
              clear NN BX cw3 cn3 ct3 ck3 fk3 ft3 ne1 ne2 ne3 ne4 ne5 z1 HZ8 N3 KO3 KP3 HZ3 BX3 AS0
              generalize W3.setCell ⟨gw, t, none⟩ (.bool false) = W2 at *
              have y0 := BX2.out.cells.cell0
              have y1 := BX2.out.cells.cell1
              have y2 := BX2.out.cells.cell2
              have y3 := BX2.out.cells.cell3
              have y4 := BX2.out.cells.cell4
              simp only [Nat.zero_add] at y1 y2 y3 y4
              rw [HT.out] at y1
              have AS : Hid (Calls Try.prog 54 #[.agg #[.int .i64 xi.op, .int .i64 (t : Int), .int .i64 xi.a, .int .i64 xi.b, .int .i64 xi.c]] W2 fun e w' => AsksR w' e xi ∧ Below W2.heap.size W2 w') := hide (by rw [← HT.out]; exact asks_any xi W2)
              gi_wp2_with (refine ⟨trivial, ?_⟩; gi_at_call 54; refine (CallsIn.inRound l (callsIn_wide.2 AS.out)).mono ?_; rintro e W3 ⟨⟨va, rfl, hva⟩, hb⟩; obtain ⟨a1, c1', rfl, _⟩ := id hva; have VA := hide hva; have N3 := hide (N2.out.step hb); have KO3 := hide (KO2.out.trans (ko_below hb)); have KP3 := hide (KP2.out.trans (keeps_below hb HZ2.out)); have HZ3 := hide (Nat.le_trans HZ2.out hb.size); clear hva hb)
              clear N2 KO2 KP2 BX2 HZ2 y0 y1 y2 y3 y4 AS
              gi_loopw [52, 9] (fun av _ wr => ∃ (a : Nat) (l2 : List Bool), a ≤ (asksL xi).length ∧ av = .int .i64 a ∧ ND w wr Bn Bw gn gw p.code.length m ln l2 ∧ KeepsOthers W wr ∧ Keeps lo w8.heap.size W wr ∧ w8.heap.size ≤ wr.heap.size ∧ IntsAt wr (.slice a1 (asksL xi).length c1') (asksL xi) ∧ ∀ r : Nat, r < m → bl l2 r = (bl (lw.set t false) r || decide ((r : Int) ∈ (asksL xi).take a))) (fun av _ _ => (asksL xi).length - (intOf av).toNat)
              case atStart => exact ⟨0, _, Nat.zero_le _, rfl, N3.out, KO3.out, KP3.out, HZ3.out, VA.out, fun r _ => by simp⟩
              case round =>
                clear N3 KO3 KP3 HZ3 VA
                obtain ⟨a, l2, ha, rfl, hN, hKO, hKP, hz, hVA, hQ⟩ := hrel
                have NN := hide hN
                have KO3 := hide hKO
                have KP3 := hide hKP
                have HZ3 := hide hz
                have VA := hide hVA
                have QA := hide hQ
                clear hN hKO hKP hz hVA hQ
                by_cases al : a < (asksL xi).length
                · obtain ⟨b, off, rfl, k1⟩ := VA.out.at al
                  have g1 := asks_may MY.out _ (ot_mem al)
                  have TK := hide (fun r : Int => ot_take_mem (r := r) al)
                  obtain ⟨q, hq⟩ : ∃ q, q = ot (asksL xi) a := ⟨_, rfl⟩
                  rw [← hq] at k1 g1 TK
                  clear hq
                  obtain ⟨u, rfl⟩ : ∃ u : Nat, q = u := ⟨q.toNat, by omega⟩
                  have um : u < m := by have := HM.out; omega
                  have ul : u < l2.length := by rw [NN.out.lm]; exact um
                  have cw := NN.out.bw.cell
                  have cu := NN.out.ow.cell ul
                  have fu := NN.out.ow.frozen u
                  clear g1
                  gi_wp2
                  have a2 := asks_two xi
                  have EW : Value.int .i64 (wrap64 ((a : Int) + 1)) = .int .i64 ((a + 1 : Nat) : Int) := congrArg _ (by unfold wrap64; omega)
                  rw [EW]
                  refine ⟨⟨a + 1, l2.set u true, by omega, rfl, NN.out.storeW u true, KO3.out.trans (KeepsOthers.setCell _ ⟨gw, u, none⟩ (.bool true)), KP3.out.trans (keeps_set (lo := lo) (hi := w8.heap.size) (o := u) _ (.bool true) L2.out), Nat.le_trans HZ3.out (KeepsOthers.setCell wr ⟨gw, u, none⟩ (.bool true)).size, VA.out.storeW NN.out, fun r hr => ?_⟩, by simp [intOf]; omega⟩
                  rw [bl_set ul, TK.out]
                  by_cases e : r = u
                  · subst e; simp
                  · have e' : ¬ (u : Int) = r := by omega
                    rw [if_neg e, QA.out r hr]; simp [e']
                · have e : a = (asksL xi).length := by omega
                  subst e
                  rw [List.take_length] at QA
                  gi_wp2
                  refine ⟨KO3.out.from _, KP3.out, ln, l2, NN.out, HZ3.out, fun r hr => ?_, fun k hk => ?_⟩
    
                  · rw [WS.out]
                    show bl l2 r = nback s.want xi r
                    unfold nback
                    rw [HT.out, HWN.out, if_pos rfl, QA.out r hr, bl_set tl]
                    rw [← E1.out r hr]
                    by_cases e : r = t
                    · subst e; simp
                    · have e' : ¬ (r : Int) = t := by omega
                      rw [if_neg e]; simp [e', Bool.or_comm]
                  · rw [WS.out]
                    exact E2.out k hk
        case done =>
          rintro D xs W hD hxs ⟨ln, lw, hN, hz, e1, e2⟩ hd
          have NN := hide hN
          have E1 := hide e1
          have E2 := hide e2
          have HD := hide hD
          have HDD := hide hd
          have HXS := hide hxs
          clear hN hz e1 e2 hD hd hxs
          simp only [Exit.inBlock, Exit.then]
          refine (by assumption : ∀ a w, Code.wp Try.prog _ _ a w → _) _ _ ?_
          try simp only [List.setIfInBounds_toArray, List.set_cons_succ, List.set_cons_zero]
          have cn := NN.out.bn.cell
          have cw := NN.out.bw.cell
          have fn := NN.out.bn.frozen
          have fw := NN.out.bw.frozen
          have nbb : Bn ≠ Bw := by have := HZ.out; omega
          go_wp2
          go_region
          go_wp2
          have N9 := hide (NN.out.again nbb (by have := HZ.out; omega) (by have := HZ.out; omega))
          clear fn fw cn cw NN
          have hd9 : (((W.setCell ⟨Bn, 0, none⟩ (.slice (some ⟨gn, 0, none⟩) p.code.length p.code.length)).setCell ⟨Bw, 0, none⟩ (.slice (some ⟨gw, 0, none⟩) m m)).drew).heap[D]? = some (.deferred (some [])) := by
            have hnn : Bn < lo ∧ Bw < lo := by have := N0L.out; omega
            exact (Below.heap_setCell _ ⟨Bw, 0, none⟩ _ D (by show D ≠ Bw; have := HD.out; have := HW8.out; omega)).trans ((Below.heap_setCell _ ⟨Bn, 0, none⟩ _ D (by show D ≠ Bn; have := HD.out; have := HW8.out; omega)).trans HDD.out)
          refine bb_mark rfl _ _ w Bn Bw D _ _ rfl rfl hd9 N9.out.bn N9.out.bw (fun V hk hV => ?_) N9.out.below (Nat.le_trans (Nat.le_trans WR.out HW8.out) HD.out)
          have e1 : ln = idL p := bl_ext (by rw [N9.out.ll]; exact (idL_length _).symm) (fun k hk => by
            have hk' : k < p.code.length := by rw [← N9.out.ll]; exact hk
            rw [E2.out k hk', HXS.out]
            exact irun_all p.outs p.code k hk')
          have mt : p.regs.toNat = m := by have := HM.out; omega
          have e2 : lw = askd p := bl_ext (by rw [N9.out.lm, askd_length, mt]) (fun r hr => by
            have hr' : r < m := by rw [← N9.out.lm]; exact hr
            rw [E1.out r hr', HXS.out, irun_want, askd_bl p r (by omega)])
          refine ⟨⟨gn, gw, by rw [mt], ?_, ?_⟩, hV⟩
          · rw [← e1]; exact N9.out.on.heap (fun o => hk _ o)
          · rw [mt, ← e2]; exact N9.out.ow.heap (fun o => hk _ o)
  
end Go.Proofs.Ytcciojlbfaanmaa
