/- order.livesOf: how long each value is asked. -/
import Derived.Test.YtheakienigmkhaaOrU
import Derived.Test.YtheakienigmkhaaCalmL
import Derived.Test.YtheakienigmkhaaCalmI
import Derived.Test.YtheakienigmkhaaCalmT
import Derived.Deep.Cut
namespace Go.Proofs.Ytheakienigmkhaa
open Go.RowKit Go.Shelf
attribute [local go_sem] Oper.semAt_some

def frL (a : Act) (code : List Ins) (ps : Array Tmp) (x : Fin code.length) (gx : Nat) : Act := { tmps := (((ps.zip (encF code x)).foldl (fun t (p, v) => t.setIfInBounds p v) a.tmps).setIfInBounds 7 (.int .i64 (x.1 : Nat))).setIfInBounds 8 (.pointer (some ⟨gx, 0, none⟩)), defers := [] }
theorem range_lv {code : List Ins} {g : Operand} {ps : Array Tmp} {assign body : Code} {Q : Exit → Act → World → Prop} {a : Act} {w : World} {n : Nat} (h1 : 1 ≤ n) {gf : Nat} {lb : Array Value} (hg : a.eval g = .func (.func gf) #[] lb) (eg : ∀ args w, (callFunc gf args).run Try.prog w = .ok (.enter gf args) w)
    {Kp : World → World → Prop} {w0 : World} (hseq : SeqStopsK Fence.wide (n - 1) Try.prog gf lb (encF code) Kp (fun ys => ys.map (fun x => x.1) = bks code.length code.length) (fun _ => True) code.length w0)
    (hKt : ∀ {A B C : World}, Kp A B → Kp B C → Kp A C) (hKb : ∀ (W : World) (l : Nat) (o o' : Obj), w.heap.size ≤ l → W.heap[l]? = some o → o.isCells = false → o.isWalk = false → Kp W (W.putObj l o')) (hb0 : Below w0.heap.size w0 w) (hps : ∀ x, (encF code x).size = ps.size)
    (I : List (Fin code.length) → World → Prop) (hI : OwnFrom w.heap.size I) (h0 : I [] w)
    (hassign : ∀ (l : Nat) (pre : List (Fin code.length)) (x : Fin code.length) (W : World) (K : Act → World → Prop), I pre W → (∀ a' W', KeepsFrom w.heap.size W W' → Kp W W' → I pre W' → (∃ gx, a' = frL a code ps x gx ∧ Box5 W' gx 40 (cd code x.1)) → K a' W') →
      assign.wpIn (Fence.wide.inRound l) (n - 1 - 1) Try.prog (Exit.then K (fun _ _ _ => False)) { tmps := (ps.zip (encF code x)).foldl (fun t (p, v) => t.setIfInBounds p v) a.tmps, defers := [] } W)
    (hbody : ∀ (l : Nat) (pre : List (Fin code.length)) (x : Fin code.length) (gx : Nat) (W : World), I pre W → Box5 W gx 40 (cd code x.1) → body.wpIn (Fence.wide.inRound l) (n - 1 - 1) Try.prog (ownPostG w.heap.size Kp I (fun _ _ _ => False) (pre ++ [x]) W) (frL a code ps x gx) W)
    (hdone : ∀ (D : Nat) (xs : List (Fin code.length)) (W : World), w.heap.size ≤ D → xs.map (fun x => x.1) = bks code.length code.length → I xs W → W.heap[D]? = some (.deferred (some [])) → Q .normal { a with defers := { target := .collected D, args := #[] } :: a.defers } W) :
    (Code.rangeFunc g ps assign body).wpIn Fence.wide n Try.prog Q a w :=
  wpIn_rangeFunc_ownH rfl h1 hg trivial eg hseq (fun h k => hKt h k) hKb hb0 hps I (fun _ _ _ => False) hI (fun _ => ownFrom_pure _ _) h0 (fun x a' W => ∃ gx, a' = frL a code ps x gx ∧ Box5 W gx 40 (cd code x.1)) (fun x a' => axF_from _ a' _ _) hassign
    (fun l pre x a' W _ _ hi ⟨gx, e, hb⟩ _ => by subst e; exact hbody l pre x gx W hi hb) hdone (fun _ _ _ _ _ _ h _ => h.elim)
theorem rep_m1 (b off c n : Nat) (w : World) (hn : n ≤ 1000) (h1 : 1 ≤ n) (hc : w.cell? ⟨b, off, none⟩ = some (.int .i64 (-1))) :
    Calls Try.prog 52 #[.slice (some ⟨b, off, none⟩) 1 c, .int .i64 n] w fun e w' => ∃ g, e = .returned (.slice (some ⟨g, 0, none⟩) n n) ∧ w.heap.size ≤ g ∧ IArr w' g (List.replicate n (-1)) ∧ Below w.heap.size w w' :=
  (rep_any b off c n (-1) w hn h1 hc).mono fun _ _ ⟨h1, h2, h3⟩ => ⟨_, h1, Nat.le_refl _, h2, h3⟩
theorem rep_ne {w : World} {g g' a n : Nat} (h : IArr w g (List.replicate (a + 1) (-1))) (k : IArr w g' (List.replicate n 0)) : g ≠ g' := by
  rintro rfl
  have e := h.inj k
  have h1 : (-1 : Int) ∈ List.replicate n (0 : Int) := by rw [← e]; simp
  have := List.eq_of_mem_replicate h1
  omega
theorem ot_ext {l m : List Int} (h : l.length = m.length) (he : ∀ k, k < l.length → ot l k = ot m k) : l = m := by
  apply List.ext_getElem h
  intro k h1 h2
  have := he k h1
  unfold ot at this
  simpa [h1, h2] using this
theorem info_lives : (Try.prog.info? 67).map (·.size) = some 2 := by kernel_rfl
theorem res_lives {fn : Func} {p : Tmp} (h : fn.results = #[.cell p 67]) (tmps : Array Value) (w : World) (g : Nat) (x y : Value) (hp : tmps.getD p undef = .pointer (some ⟨g, 0, none⟩)) (hg : Box2 w g 67 x y) :
    (results fn tmps).run Try.prog w = .ok (.agg #[x, y]) w := by
  have hp' : tmps[p]?.getD undef = .pointer (some ⟨g, 0, none⟩) := by simpa using hp
  simp [results, h, hp', asAddr, run_loadVar_row w g 67 67 #[x, y] (0, 0) _ hg Try.underlying67 rfl info_lives]
theorem cellsOwn {X Y : World} {B : Nat} {c : Array Value} {t : TypeId} {f : Nat × Nat} {row : Option Nat} (h : X.heap[B]? = some (.cells c t f)) (hg : X.grownBy Y row) (hr : ∀ r, row = some r → ∃ o : Obj, X.heap[r]? = some o ∧ o.isCells = false) : Y.heap[B]? = some (.cells c t f) :=
  (hg.block B (Array.getElem?_eq_some_iff.1 h).1 (fun e => by obtain ⟨o, ho, hc⟩ := hr B e.symm; rw [h] at ho; cases ho; cases hc)).trans h
theorem one_left {n : Nat} {fn : Func} {tmps : Array Value} {R : Ending → World → Prop} {B D : Nat} {W : World} (I : World → Prop) (hI : ∀ X Y row, I X → X.grownBy Y row → (∀ r, row = some r → B ≤ r ∧ ∃ o : Obj, X.heap[r]? = some o ∧ o.isCells = false) → I Y) (hD : B ≤ D) (hd : W.heap[D]? = some (.deferred (some []))) (hW : I W)
    (hR : ∀ V, I V → ∃ v, (results fn tmps).run Try.prog V = .ok v V ∧ R (.returned v) V) : LeavesInM Fence.wide n Try.prog fn tmps R [{ target := .collected D, args := #[] }] .returning W := by
  have hp : I (W.putObj D (.deferred none)) := (show OwnFrom B (fun (_ : Unit) V => I V) from fun _ X Y row h1 h2 h3 => hI X Y row h1 h2 h3).putObj (s := ()) _ hW hD hd rfl
  obtain ⟨v, h1, h2⟩ := hR _ hp
  exact ⟨by simp, .inl ⟨_, _, rfl, run_takeDeferred hd, _, h1, h2⟩⟩
def LvR (w w' : World) (e : Ending) (p : Pg) : Prop := ∃ gf gs, e = .returned (.agg #[.slice (some ⟨gf, 0, none⟩) (p.ins.toNat + 1) (p.ins.toNat + 1), .slice (some ⟨gs, 0, none⟩) p.code.length p.code.length]) ∧ IArr w' gf (fst_ p) ∧ IArr w' gs (setL p) ∧ w.heap.size ≤ gf ∧ w.heap.size ≤ gs ∧ gf ≠ gs
set_option maxRecDepth 100000 in
set_option maxHeartbeats 16000000 in
theorem lives_any (v : Value) (p : Pg) (w : World) (h : PgAt w v p) (hr : rightB p = true) (hl4 : p.code.length ≤ 400) :
    Calls Try.prog 30 #[v] w fun e w' => LvR w w' e p ∧ Below w.heap.size w w' := by
  obtain ⟨p1, p2, p3, p4, p5, p6, p7, p8⟩ := right_parts hr
  have P7 := hide p7
  have P8 := hide p8
  clear p7 p8
  have HP := hide h
  have HRR := hide hr
  have HP0 := hide h
  obtain ⟨ca, cc, oa, oc, rfl, hc, ho⟩ := h
  have KO := hide ho
  have KO0 := hide ho
  clear hc ho
  obtain ⟨m, hm⟩ : ∃ m : Nat, p.regs = m := ⟨p.regs.toNat, by omega⟩
  obtain ⟨ni, hni⟩ : ∃ ni : Nat, p.ins = ni := ⟨p.ins.toNat, by omega⟩
  have HM := hide hm
  have HN := hide hni
  have hml : m ≤ 128 := by omega
  have hnl : ni ≤ m := by omega
  have hn1 : 1 ≤ ni := by omega
  clear hm hni
  refine callsIn_marksN (n := 3) Try.func30 rfl ?_
  simp only [Try.ntmps30, List.size_toArray, List.length_cons, List.length_nil, Nat.reduceAdd, Nat.reduceSub, Array.replicate_succ, Array.replicate_zero, List.push_toArray, List.append_toArray, List.nil_append, List.cons_append]
  go_upto_region 1 with fail
  have b1 := below_alloc w (.cells #[.int .i64 p.ins, .int .i64 p.regs, .slice ca p.code.length cc, .slice oa p.outs.length oc] 25)
  have b2 := below_alloc (w.alloc (.cells #[.int .i64 p.ins, .int .i64 p.regs, .slice ca p.code.length cc, .slice oa p.outs.length oc] 25)) (.cells #[.slice none 0 0, .slice none 0 0] 67)
  have PX := hide ((Box4.new w 25 (.int .i64 p.ins) (.int .i64 p.regs) (.slice ca p.code.length cc) (.slice oa p.outs.length oc)).step b2)
  have RX := hide (Box2.new (w.alloc (.cells #[.int .i64 p.ins, .int .i64 p.regs, .slice ca p.code.length cc, .slice oa p.outs.length oc] 25)) 67 (.slice none 0 0) (.slice none 0 0))
  rw [World.size_alloc] at RX
  replace HP := hide ((HP.out.below b1).below b2)
  replace KO := hide ((KO.out.below b1).below b2)
  have HB := hide (b1.trans (b2.mono b1.size))
  clear b1 b2
  generalize (w.alloc (.cells #[.int .i64 p.ins, .int .i64 p.regs, .slice ca p.code.length cc, .slice oa p.outs.length oc] 25)).alloc (.cells #[.slice none 0 0, .slice none 0 0] 67) = w1 at *
  obtain ⟨B, hB⟩ : ∃ B, B = w.heap.size := ⟨_, rfl⟩
  have HZ := hide hB
  rw [← hB] at PX RX ⊢
  clear hB
  obtain ⟨R, hR⟩ : ∃ R, R = B + 1 := ⟨_, rfl⟩
  have HR : Hid (w.heap.size ≤ R) := hide (by have := HZ.out; omega)
  rw [← hR] at RX ⊢
  clear hR
  go_cut [3] from 14 (fun pt wx => ∃ gL gF gS, pt = .pointer (some ⟨gL, 0, none⟩) ∧ Below w1.heap.size w1 wx ∧ Box2 wx gL 67 (.slice (some ⟨gF, 0, none⟩) (ni + 1) (ni + 1)) (.slice (some ⟨gS, 0, none⟩) p.code.length p.code.length) ∧ IArr wx gF (List.replicate (ni + 1) (-1)) ∧ IArr wx gS (List.replicate p.code.length 0) ∧ w1.heap.size ≤ gL ∧ w1.heap.size ≤ gF ∧ w1.heap.size ≤ gS)
  case first =>
    have hmk := run_makeT p.code.length (by omega)
    have hwr : IntKind.i64.wrap ((ni : Int) + 1) = ((ni + 1 : Nat) : Int) := by rw [IntKind.wrap_i64]; omega
    have hrep : Hid (∀ (b : Nat) (w : World), w.cell? ⟨b, 0, none⟩ = some (.int .i64 (-1)) → Calls Try.prog 52 #[.slice (some ⟨b, 0, none⟩) 1 1, .int .i64 ((ni : Int) + 1)] w fun e w' => ∃ g, e = .returned (.slice (some ⟨g, 0, none⟩) (ni + 1) (ni + 1)) ∧ w.heap.size ≤ g ∧ IArr w' g (List.replicate (ni + 1) (-1)) ∧ Below w.heap.size w w') := hide (fun b w hc => by have h := rep_m1 b 0 1 (ni + 1) w (by omega) (by omega) hc; rw [show ((ni + 1 : Nat) : Int) = (ni : Int) + 1 from by omega] at h; exact h)
    refine wp_calm (fun w' => Below w1.heap.size w1 w') (fun _ => true) 12 #[false, false, false, false, false, false, false, false, false, false, false, false] (by kernel_rfl) rfl rfl ?_
    have HF := hide ((Below.refl w1.heap.size w1).drew)
    generalize w1.drew = w1d at *
    refine Calm.takeL 12 (i := 1) (v := ?_) (a' := ?_) (l' := #[false, true, false, false, false, false, false, false, false, false, false, false]) (d := some 15) (by kernel_rfl) rfl (by kernel_rfl) (by kernel_rfl) (by kernel_rfl) (by kernel_rfl) (fun _ _ _ h => h) HF.out rfl ?_ rfl rfl ?_ ?_
    rotate_left
    · intro w' hF; clear hF; go_simp; try rfl
    rotate_left
    · simp only [Act.put]; exact rfl
    refine Calm.takeL 12 (i := 2) (v := ?_) (a' := ?_) (l' := #[false, true, true, false, false, false, false, false, false, false, false, false]) (d := some 16) (by kernel_rfl) rfl (by kernel_rfl) (by kernel_rfl) (by kernel_rfl) (by kernel_rfl) (fun _ _ _ h => h) HF.out rfl ?_ rfl rfl ?_ ?_
    rotate_left
    · intro w' hF; have c0 := (PX.out.step hF).cell0; have c2 := (PX.out.step hF).cell2; rw [HN.out] at c0; clear hF; go_simp; try rfl
    rotate_left
    · simp only [Act.put]; exact rfl
    refine Calm.takeL 12 (i := 3) (v := ?_) (a' := ?_) (l' := #[false, true, true, true, false, false, false, false, false, false, false, false]) (d := some 17) (by kernel_rfl) rfl (by kernel_rfl) (by kernel_rfl) (by kernel_rfl) (by kernel_rfl) (fun _ _ _ h => h) HF.out rfl ?_ rfl rfl ?_ ?_
    rotate_left
    · intro w' hF; clear hF; go_simp; try rfl
    rotate_left
    · simp only [Act.put]; exact rfl
    refine Calm.takeL 12 (i := 5) (v := ?_) (a' := ?_) (l' := #[false, true, true, true, false, true, false, false, false, false, false, false]) (d := some 19) (by kernel_rfl) rfl (by kernel_rfl) (by kernel_rfl) (by kernel_rfl) (by kernel_rfl) (fun _ _ _ h => h) HF.out rfl ?_ rfl rfl ?_ ?_
    rotate_left
    · intro w' hF; clear hF; go_simp; try rfl
    rotate_left
    · simp only [Act.put]; exact rfl
    refine Calm.takeL 12 (i := 6) (v := ?_) (a' := ?_) (l' := #[false, true, true, true, false, true, true, false, false, false, false, false]) (d := some 20) (by kernel_rfl) rfl (by kernel_rfl) (by kernel_rfl) (by kernel_rfl) (by kernel_rfl) (fun _ _ _ h => h) HF.out rfl ?_ rfl rfl ?_ ?_
    rotate_left
    · intro w' hF; have c0 := (PX.out.step hF).cell0; have c2 := (PX.out.step hF).cell2; rw [HN.out] at c0; clear hF; go_simp; try rfl
    rotate_left
    · simp only [Act.put]; exact rfl
    refine Calm.takeL 12 (i := 7) (v := ?_) (a' := ?_) (l' := #[false, true, true, true, false, true, true, true, false, false, false, false]) (d := some 21) (by kernel_rfl) rfl (by kernel_rfl) (by kernel_rfl) (by kernel_rfl) (by kernel_rfl) (fun _ _ _ h => h) HF.out rfl ?_ rfl rfl ?_ ?_
    rotate_left
    · intro w' hF; clear hF; go_simp; try rfl
    rotate_left
    · simp only [Act.put]; exact rfl
    refine Calm.three (i := 0) (j := 8) (m := 10) (l := #[true, true, true, true, false, true, true, true, false, false, false, false]) (l' := #[false, true, true, true, false, true, true, true, true, false, false, false]) (l'' := #[false, true, true, true, false, true, true, true, false, false, true, false]) (by kernel_rfl) rfl rfl rfl rfl rfl rfl rfl rfl rfl (fun K hK => ?_) (fun K hK => ?_) (fun K hK => ?_)
    · go_simp
      have al := below_alloc w1d (.cells #[.int .i64 (-1)] 3)
      have HF' := hide (HF.out.trans ((al).mono HF.out.size))
      have BXA := hide (show IArr (w1d.alloc (.cells #[.int .i64 (-1)] 3)) w1d.heap.size [-1] from IArr.new w1d [-1])
      have GEA := hide (HF.out.size)
      refine hK _ _ (fun _ => HF'.out) ?_
      clear hK K HF al
      have HF := hide HF'.out
      clear HF'
      generalize w1d.alloc (.cells #[.int .i64 (-1)] 3) = wzA at *
      generalize w1d.heap.size = gA at *
      refine Calm.three (i := 4) (j := 8) (m := 10) (l := #[true, true, true, true, true, true, true, true, false, false, false, false]) (l' := #[true, true, true, true, false, true, true, true, true, false, false, false]) (l'' := #[true, true, true, true, false, true, true, true, false, false, true, false]) (by kernel_rfl) rfl rfl rfl rfl rfl rfl rfl rfl rfl (fun K hK => ?_) (fun K hK => ?_) (fun K hK => ?_)
      · go_simp
        refine (hrep.out gA _ (BXA.out.cell (k := 0) (by simp))).mono ?_
        rintro e x1 ⟨gF, rfl, hge, hfr, hb⟩
        have GF := hide (Nat.le_trans HF.out.size hge)
        have RF := hide hfr
        clear hge hfr
        replace BXA := hide (BXA.out.step hb)
        have HF' := hide (HF.out.trans ((hb).mono HF.out.size))
        refine hK _ _ (fun _ => HF'.out) ?_
        clear hK K HF hb
        have HF := hide HF'.out
        clear HF'
        refine Calm.two (i := 8) (j := 10) (l := #[true, true, true, true, true, true, true, true, true, false, false, false]) (l' := #[true, true, true, true, true, true, true, true, false, false, true, false]) (by kernel_rfl) rfl rfl rfl rfl rfl rfl (fun K hK => ?_) (fun K hK => ?_)
        · go_simp
          have al := below_alloc x1 (.cells (intCells (List.replicate p.code.length 0)).toArray 3)
          replace RF := hide (RF.out.step al)
          have HF' := hide (HF.out.trans ((al).mono HF.out.size))
          have BXS := hide (IArr.new x1 (List.replicate p.code.length 0))
          have LTAS := hide (BXA.out.lt)
          replace BXA := hide (BXA.out.step al)
          have GES := hide (HF.out.size)
          refine hK _ _ (fun _ => HF'.out) ?_
          clear hK K HF al
          have HF := hide HF'.out
          clear HF'
          generalize x1.alloc (.cells (intCells (List.replicate p.code.length 0)).toArray 3) = wzS at *
          generalize x1.heap.size = gS at *
          refine Calm.takeL 12 (i := 9) (v := ?_) (a' := ?_) (l' := #[true, true, true, true, true, true, true, true, true, true, false, false]) (d := some 23) (by kernel_rfl) rfl (by kernel_rfl) (by kernel_rfl) (by kernel_rfl) (by kernel_rfl) (fun _ _ _ h => h) HF.out rfl ?_ rfl rfl ?_ ?_
          rotate_left
          · intro w' hF; clear hF; go_simp; try rfl
          rotate_left
          · simp only [Act.put]; exact rfl
          refine Calm.one (i := 10) (l' := #[true, true, true, true, true, true, true, true, true, true, true, false]) (by kernel_rfl) rfl rfl rfl fun K hK => ?_
          go_simp
          have al := below_alloc wzS (.cells #[.slice none 0 0, .slice none 0 0] 67)
          replace RF := hide (RF.out.step al)
          have HF' := hide (HF.out.trans ((al).mono HF.out.size))
          have BXL := hide (Box2.new wzS 67 (.slice none 0 0) (.slice none 0 0))
          have LTAL := hide (BXA.out.lt)
          replace BXA := hide (BXA.out.step al)
          have LTSL := hide (BXS.out.lt)
          replace BXS := hide (BXS.out.step al)
          have GEL := hide (HF.out.size)
          refine hK _ _ (fun _ => HF'.out) ?_
          clear hK K HF al
          have HF := hide HF'.out
          clear HF'
          generalize wzS.alloc (.cells #[.slice none 0 0, .slice none 0 0] 67) = wzL at *
          generalize wzS.heap.size = gL at *
          refine Calm.one (i := 11) (l' := #[true, true, true, true, true, true, true, true, true, true, true, true]) (by kernel_rfl) rfl rfl rfl fun K hK => ?_
          have hc0 := BXL.out.cell0
          have hc1 := BXL.out.cell1
          have hf0 := BXL.out.free 0
          have hf1 := BXL.out.free 1
          go_simp
          have HF' := hide ((HF.out.setCell (p := ⟨gL, 0, none⟩) GEL.out (.slice (some ⟨gF, 0, none⟩) (ni + 1) (ni + 1))).setCell (p := ⟨gL, 1, none⟩) GEL.out (.slice (some ⟨gS, 0, none⟩) p.code.length p.code.length))
          have nF := RF.out.ne_cells BXL.out (by decide)
          have nS := BXS.out.ne_cells BXL.out (by decide)
          replace RF := hide ((RF.out.other (o := 0) (Ne.symm nF) (.slice (some ⟨gF, 0, none⟩) (ni + 1) (ni + 1))).other (o := 1) (Ne.symm nF) (.slice (some ⟨gS, 0, none⟩) p.code.length p.code.length))
          replace BXS := hide ((BXS.out.other (o := 0) (Ne.symm nS) (.slice (some ⟨gF, 0, none⟩) (ni + 1) (ni + 1))).other (o := 1) (Ne.symm nS) (.slice (some ⟨gS, 0, none⟩) p.code.length p.code.length))
          replace BXL := hide ((BXL.out.set0 (.slice (some ⟨gF, 0, none⟩) (ni + 1) (ni + 1))).set1 (.slice (some ⟨gS, 0, none⟩) p.code.length p.code.length))
          clear BXA
          refine hK _ _ (fun _ => HF'.out) ?_
          clear hK K HF hc0 hc1 hf0 hf1 nF nS
          have HF := hide HF'.out
          clear HF'
          generalize ((wzL.setCell ⟨gL, 0, none⟩ (.slice (some ⟨gF, 0, none⟩) (ni + 1) (ni + 1))).setCell ⟨gL, 1, none⟩ (.slice (some ⟨gS, 0, none⟩) p.code.length p.code.length)) = wz9 at *
          refine Calm.done (by kernel_rfl) ?_
          try simp only [List.setIfInBounds_toArray, List.set_cons_succ, List.set_cons_zero]
          go_wp2
          go_meet
          case rel => exact ⟨gL, gF, gS, rfl, HF.out, BXL.out, RF.out, BXS.out, GEL.out, GF.out, GES.out⟩
        · go_simp
          have al := below_alloc x1 (.cells #[.slice none 0 0, .slice none 0 0] 67)
          replace RF := hide (RF.out.step al)
          have HF' := hide (HF.out.trans ((al).mono HF.out.size))
          have BXL := hide (Box2.new x1 67 (.slice none 0 0) (.slice none 0 0))
          have LTAL := hide (BXA.out.lt)
          replace BXA := hide (BXA.out.step al)
          have GEL := hide (HF.out.size)
          refine hK _ _ (fun _ => HF'.out) ?_
          clear hK K HF al
          have HF := hide HF'.out
          clear HF'
          generalize x1.alloc (.cells #[.slice none 0 0, .slice none 0 0] 67) = wzL at *
          generalize x1.heap.size = gL at *
          refine Calm.one (i := 8) (l' := #[true, true, true, true, true, true, true, true, true, false, true, false]) (by kernel_rfl) rfl rfl rfl fun K hK => ?_
          go_simp
          have al := below_alloc wzL (.cells (intCells (List.replicate p.code.length 0)).toArray 3)
          replace RF := hide (RF.out.step al)
          have HF' := hide (HF.out.trans ((al).mono HF.out.size))
          have BXS := hide (IArr.new wzL (List.replicate p.code.length 0))
          have LTAS := hide (BXA.out.lt)
          replace BXA := hide (BXA.out.step al)
          have LTLS := hide (BXL.out.lt)
          replace BXL := hide (BXL.out.step al)
          have GES := hide (HF.out.size)
          refine hK _ _ (fun _ => HF'.out) ?_
          clear hK K HF al
          have HF := hide HF'.out
          clear HF'
          generalize wzL.alloc (.cells (intCells (List.replicate p.code.length 0)).toArray 3) = wzS at *
          generalize wzL.heap.size = gS at *
          refine Calm.takeL 12 (i := 9) (v := ?_) (a' := ?_) (l' := #[true, true, true, true, true, true, true, true, true, true, true, false]) (d := some 23) (by kernel_rfl) rfl (by kernel_rfl) (by kernel_rfl) (by kernel_rfl) (by kernel_rfl) (fun _ _ _ h => h) HF.out rfl ?_ rfl rfl ?_ ?_
          rotate_left
          · intro w' hF; clear hF; go_simp; try rfl
          rotate_left
          · simp only [Act.put]; exact rfl
          refine Calm.one (i := 11) (l' := #[true, true, true, true, true, true, true, true, true, true, true, true]) (by kernel_rfl) rfl rfl rfl fun K hK => ?_
          have hc0 := BXL.out.cell0
          have hc1 := BXL.out.cell1
          have hf0 := BXL.out.free 0
          have hf1 := BXL.out.free 1
          go_simp
          have HF' := hide ((HF.out.setCell (p := ⟨gL, 0, none⟩) GEL.out (.slice (some ⟨gF, 0, none⟩) (ni + 1) (ni + 1))).setCell (p := ⟨gL, 1, none⟩) GEL.out (.slice (some ⟨gS, 0, none⟩) p.code.length p.code.length))
          have nF := RF.out.ne_cells BXL.out (by decide)
          have nS := BXS.out.ne_cells BXL.out (by decide)
          replace RF := hide ((RF.out.other (o := 0) (Ne.symm nF) (.slice (some ⟨gF, 0, none⟩) (ni + 1) (ni + 1))).other (o := 1) (Ne.symm nF) (.slice (some ⟨gS, 0, none⟩) p.code.length p.code.length))
          replace BXS := hide ((BXS.out.other (o := 0) (Ne.symm nS) (.slice (some ⟨gF, 0, none⟩) (ni + 1) (ni + 1))).other (o := 1) (Ne.symm nS) (.slice (some ⟨gS, 0, none⟩) p.code.length p.code.length))
          replace BXL := hide ((BXL.out.set0 (.slice (some ⟨gF, 0, none⟩) (ni + 1) (ni + 1))).set1 (.slice (some ⟨gS, 0, none⟩) p.code.length p.code.length))
          clear BXA
          refine hK _ _ (fun _ => HF'.out) ?_
          clear hK K HF hc0 hc1 hf0 hf1 nF nS
          have HF := hide HF'.out
          clear HF'
          generalize ((wzS.setCell ⟨gL, 0, none⟩ (.slice (some ⟨gF, 0, none⟩) (ni + 1) (ni + 1))).setCell ⟨gL, 1, none⟩ (.slice (some ⟨gS, 0, none⟩) p.code.length p.code.length)) = wz9 at *
          refine Calm.done (by kernel_rfl) ?_
          try simp only [List.setIfInBounds_toArray, List.set_cons_succ, List.set_cons_zero]
          go_wp2
          go_meet
          case rel => exact ⟨gL, gF, gS, rfl, HF.out, BXL.out, RF.out, BXS.out, GEL.out, GF.out, GES.out⟩
      · go_simp
        have al := below_alloc wzA (.cells (intCells (List.replicate p.code.length 0)).toArray 3)
        have HF' := hide (HF.out.trans ((al).mono HF.out.size))
        have BXS := hide (IArr.new wzA (List.replicate p.code.length 0))
        have LTAS := hide (BXA.out.lt)
        replace BXA := hide (BXA.out.step al)
        have GES := hide (HF.out.size)
        refine hK _ _ (fun _ => HF'.out) ?_
        clear hK K HF al
        have HF := hide HF'.out
        clear HF'
        generalize wzA.alloc (.cells (intCells (List.replicate p.code.length 0)).toArray 3) = wzS at *
        generalize wzA.heap.size = gS at *
        refine Calm.two (i := 4) (j := 10) (l := #[true, true, true, true, true, true, true, true, true, false, false, false]) (l' := #[true, true, true, true, false, true, true, true, true, false, true, false]) (by kernel_rfl) rfl rfl rfl rfl rfl rfl (fun K hK => ?_) (fun K hK => ?_)
        · go_simp
          refine (hrep.out gA _ (BXA.out.cell (k := 0) (by simp))).mono ?_
          rintro e x1 ⟨gF, rfl, hge, hfr, hb⟩
          have GF := hide (Nat.le_trans HF.out.size hge)
          have RF := hide hfr
          clear hge hfr
          replace BXA := hide (BXA.out.step hb)
          replace BXS := hide (BXS.out.step hb)
          have HF' := hide (HF.out.trans ((hb).mono HF.out.size))
          refine hK _ _ (fun _ => HF'.out) ?_
          clear hK K HF hb
          have HF := hide HF'.out
          clear HF'
          refine Calm.takeL 12 (i := 9) (v := ?_) (a' := ?_) (l' := #[true, true, true, true, true, true, true, true, true, true, false, false]) (d := some 23) (by kernel_rfl) rfl (by kernel_rfl) (by kernel_rfl) (by kernel_rfl) (by kernel_rfl) (fun _ _ _ h => h) HF.out rfl ?_ rfl rfl ?_ ?_
          rotate_left
          · intro w' hF; clear hF; go_simp; try rfl
          rotate_left
          · simp only [Act.put]; exact rfl
          refine Calm.one (i := 10) (l' := #[true, true, true, true, true, true, true, true, true, true, true, false]) (by kernel_rfl) rfl rfl rfl fun K hK => ?_
          go_simp
          have al := below_alloc x1 (.cells #[.slice none 0 0, .slice none 0 0] 67)
          replace RF := hide (RF.out.step al)
          have HF' := hide (HF.out.trans ((al).mono HF.out.size))
          have BXL := hide (Box2.new x1 67 (.slice none 0 0) (.slice none 0 0))
          have LTAL := hide (BXA.out.lt)
          replace BXA := hide (BXA.out.step al)
          have LTSL := hide (BXS.out.lt)
          replace BXS := hide (BXS.out.step al)
          have GEL := hide (HF.out.size)
          refine hK _ _ (fun _ => HF'.out) ?_
          clear hK K HF al
          have HF := hide HF'.out
          clear HF'
          generalize x1.alloc (.cells #[.slice none 0 0, .slice none 0 0] 67) = wzL at *
          generalize x1.heap.size = gL at *
          refine Calm.one (i := 11) (l' := #[true, true, true, true, true, true, true, true, true, true, true, true]) (by kernel_rfl) rfl rfl rfl fun K hK => ?_
          have hc0 := BXL.out.cell0
          have hc1 := BXL.out.cell1
          have hf0 := BXL.out.free 0
          have hf1 := BXL.out.free 1
          go_simp
          have HF' := hide ((HF.out.setCell (p := ⟨gL, 0, none⟩) GEL.out (.slice (some ⟨gF, 0, none⟩) (ni + 1) (ni + 1))).setCell (p := ⟨gL, 1, none⟩) GEL.out (.slice (some ⟨gS, 0, none⟩) p.code.length p.code.length))
          have nF := RF.out.ne_cells BXL.out (by decide)
          have nS := BXS.out.ne_cells BXL.out (by decide)
          replace RF := hide ((RF.out.other (o := 0) (Ne.symm nF) (.slice (some ⟨gF, 0, none⟩) (ni + 1) (ni + 1))).other (o := 1) (Ne.symm nF) (.slice (some ⟨gS, 0, none⟩) p.code.length p.code.length))
          replace BXS := hide ((BXS.out.other (o := 0) (Ne.symm nS) (.slice (some ⟨gF, 0, none⟩) (ni + 1) (ni + 1))).other (o := 1) (Ne.symm nS) (.slice (some ⟨gS, 0, none⟩) p.code.length p.code.length))
          replace BXL := hide ((BXL.out.set0 (.slice (some ⟨gF, 0, none⟩) (ni + 1) (ni + 1))).set1 (.slice (some ⟨gS, 0, none⟩) p.code.length p.code.length))
          clear BXA
          refine hK _ _ (fun _ => HF'.out) ?_
          clear hK K HF hc0 hc1 hf0 hf1 nF nS
          have HF := hide HF'.out
          clear HF'
          generalize ((wzL.setCell ⟨gL, 0, none⟩ (.slice (some ⟨gF, 0, none⟩) (ni + 1) (ni + 1))).setCell ⟨gL, 1, none⟩ (.slice (some ⟨gS, 0, none⟩) p.code.length p.code.length)) = wz9 at *
          refine Calm.done (by kernel_rfl) ?_
          try simp only [List.setIfInBounds_toArray, List.set_cons_succ, List.set_cons_zero]
          go_wp2
          go_meet
          case rel => exact ⟨gL, gF, gS, rfl, HF.out, BXL.out, RF.out, BXS.out, GEL.out, GF.out, GES.out⟩
        · go_simp
          have al := below_alloc wzS (.cells #[.slice none 0 0, .slice none 0 0] 67)
          have HF' := hide (HF.out.trans ((al).mono HF.out.size))
          have BXL := hide (Box2.new wzS 67 (.slice none 0 0) (.slice none 0 0))
          have LTAL := hide (BXA.out.lt)
          replace BXA := hide (BXA.out.step al)
          have LTSL := hide (BXS.out.lt)
          replace BXS := hide (BXS.out.step al)
          have GEL := hide (HF.out.size)
          refine hK _ _ (fun _ => HF'.out) ?_
          clear hK K HF al
          have HF := hide HF'.out
          clear HF'
          generalize wzS.alloc (.cells #[.slice none 0 0, .slice none 0 0] 67) = wzL at *
          generalize wzS.heap.size = gL at *
          refine Calm.one (i := 4) (l' := #[true, true, true, true, true, true, true, true, true, false, true, false]) (by kernel_rfl) rfl rfl rfl fun K hK => ?_
          go_simp
          refine (hrep.out gA _ (BXA.out.cell (k := 0) (by simp))).mono ?_
          rintro e x1 ⟨gF, rfl, hge, hfr, hb⟩
          have GF := hide (Nat.le_trans HF.out.size hge)
          have RF := hide hfr
          clear hge hfr
          replace BXA := hide (BXA.out.step hb)
          replace BXS := hide (BXS.out.step hb)
          replace BXL := hide (BXL.out.step hb)
          have HF' := hide (HF.out.trans ((hb).mono HF.out.size))
          refine hK _ _ (fun _ => HF'.out) ?_
          clear hK K HF hb
          have HF := hide HF'.out
          clear HF'
          refine Calm.takeL 12 (i := 9) (v := ?_) (a' := ?_) (l' := #[true, true, true, true, true, true, true, true, true, true, true, false]) (d := some 23) (by kernel_rfl) rfl (by kernel_rfl) (by kernel_rfl) (by kernel_rfl) (by kernel_rfl) (fun _ _ _ h => h) HF.out rfl ?_ rfl rfl ?_ ?_
          rotate_left
          · intro w' hF; clear hF; go_simp; try rfl
          rotate_left
          · simp only [Act.put]; exact rfl
          refine Calm.one (i := 11) (l' := #[true, true, true, true, true, true, true, true, true, true, true, true]) (by kernel_rfl) rfl rfl rfl fun K hK => ?_
          have hc0 := BXL.out.cell0
          have hc1 := BXL.out.cell1
          have hf0 := BXL.out.free 0
          have hf1 := BXL.out.free 1
          go_simp
          have HF' := hide ((HF.out.setCell (p := ⟨gL, 0, none⟩) GEL.out (.slice (some ⟨gF, 0, none⟩) (ni + 1) (ni + 1))).setCell (p := ⟨gL, 1, none⟩) GEL.out (.slice (some ⟨gS, 0, none⟩) p.code.length p.code.length))
          have nF := RF.out.ne_cells BXL.out (by decide)
          have nS := BXS.out.ne_cells BXL.out (by decide)
          replace RF := hide ((RF.out.other (o := 0) (Ne.symm nF) (.slice (some ⟨gF, 0, none⟩) (ni + 1) (ni + 1))).other (o := 1) (Ne.symm nF) (.slice (some ⟨gS, 0, none⟩) p.code.length p.code.length))
          replace BXS := hide ((BXS.out.other (o := 0) (Ne.symm nS) (.slice (some ⟨gF, 0, none⟩) (ni + 1) (ni + 1))).other (o := 1) (Ne.symm nS) (.slice (some ⟨gS, 0, none⟩) p.code.length p.code.length))
          replace BXL := hide ((BXL.out.set0 (.slice (some ⟨gF, 0, none⟩) (ni + 1) (ni + 1))).set1 (.slice (some ⟨gS, 0, none⟩) p.code.length p.code.length))
          clear BXA
          refine hK _ _ (fun _ => HF'.out) ?_
          clear hK K HF hc0 hc1 hf0 hf1 nF nS
          have HF := hide HF'.out
          clear HF'
          generalize ((x1.setCell ⟨gL, 0, none⟩ (.slice (some ⟨gF, 0, none⟩) (ni + 1) (ni + 1))).setCell ⟨gL, 1, none⟩ (.slice (some ⟨gS, 0, none⟩) p.code.length p.code.length)) = wz9 at *
          refine Calm.done (by kernel_rfl) ?_
          try simp only [List.setIfInBounds_toArray, List.set_cons_succ, List.set_cons_zero]
          go_wp2
          go_meet
          case rel => exact ⟨gL, gF, gS, rfl, HF.out, BXL.out, RF.out, BXS.out, GEL.out, GF.out, GES.out⟩
      · go_simp
        have al := below_alloc wzA (.cells #[.slice none 0 0, .slice none 0 0] 67)
        have HF' := hide (HF.out.trans ((al).mono HF.out.size))
        have BXL := hide (Box2.new wzA 67 (.slice none 0 0) (.slice none 0 0))
        have LTAL := hide (BXA.out.lt)
        replace BXA := hide (BXA.out.step al)
        have GEL := hide (HF.out.size)
        refine hK _ _ (fun _ => HF'.out) ?_
        clear hK K HF al
        have HF := hide HF'.out
        clear HF'
        generalize wzA.alloc (.cells #[.slice none 0 0, .slice none 0 0] 67) = wzL at *
        generalize wzA.heap.size = gL at *
        refine Calm.two (i := 4) (j := 8) (l := #[true, true, true, true, true, true, true, true, false, false, true, false]) (l' := #[true, true, true, true, false, true, true, true, true, false, true, false]) (by kernel_rfl) rfl rfl rfl rfl rfl rfl (fun K hK => ?_) (fun K hK => ?_)
        · go_simp
          refine (hrep.out gA _ (BXA.out.cell (k := 0) (by simp))).mono ?_
          rintro e x1 ⟨gF, rfl, hge, hfr, hb⟩
          have GF := hide (Nat.le_trans HF.out.size hge)
          have RF := hide hfr
          clear hge hfr
          replace BXA := hide (BXA.out.step hb)
          replace BXL := hide (BXL.out.step hb)
          have HF' := hide (HF.out.trans ((hb).mono HF.out.size))
          refine hK _ _ (fun _ => HF'.out) ?_
          clear hK K HF hb
          have HF := hide HF'.out
          clear HF'
          refine Calm.one (i := 8) (l' := #[true, true, true, true, true, true, true, true, true, false, true, false]) (by kernel_rfl) rfl rfl rfl fun K hK => ?_
          go_simp
          have al := below_alloc x1 (.cells (intCells (List.replicate p.code.length 0)).toArray 3)
          replace RF := hide (RF.out.step al)
          have HF' := hide (HF.out.trans ((al).mono HF.out.size))
          have BXS := hide (IArr.new x1 (List.replicate p.code.length 0))
          have LTAS := hide (BXA.out.lt)
          replace BXA := hide (BXA.out.step al)
          have LTLS := hide (BXL.out.lt)
          replace BXL := hide (BXL.out.step al)
          have GES := hide (HF.out.size)
          refine hK _ _ (fun _ => HF'.out) ?_
          clear hK K HF al
          have HF := hide HF'.out
          clear HF'
          generalize x1.alloc (.cells (intCells (List.replicate p.code.length 0)).toArray 3) = wzS at *
          generalize x1.heap.size = gS at *
          refine Calm.takeL 12 (i := 9) (v := ?_) (a' := ?_) (l' := #[true, true, true, true, true, true, true, true, true, true, true, false]) (d := some 23) (by kernel_rfl) rfl (by kernel_rfl) (by kernel_rfl) (by kernel_rfl) (by kernel_rfl) (fun _ _ _ h => h) HF.out rfl ?_ rfl rfl ?_ ?_
          rotate_left
          · intro w' hF; clear hF; go_simp; try rfl
          rotate_left
          · simp only [Act.put]; exact rfl
          refine Calm.one (i := 11) (l' := #[true, true, true, true, true, true, true, true, true, true, true, true]) (by kernel_rfl) rfl rfl rfl fun K hK => ?_
          have hc0 := BXL.out.cell0
          have hc1 := BXL.out.cell1
          have hf0 := BXL.out.free 0
          have hf1 := BXL.out.free 1
          go_simp
          have HF' := hide ((HF.out.setCell (p := ⟨gL, 0, none⟩) GEL.out (.slice (some ⟨gF, 0, none⟩) (ni + 1) (ni + 1))).setCell (p := ⟨gL, 1, none⟩) GEL.out (.slice (some ⟨gS, 0, none⟩) p.code.length p.code.length))
          have nF := RF.out.ne_cells BXL.out (by decide)
          have nS := BXS.out.ne_cells BXL.out (by decide)
          replace RF := hide ((RF.out.other (o := 0) (Ne.symm nF) (.slice (some ⟨gF, 0, none⟩) (ni + 1) (ni + 1))).other (o := 1) (Ne.symm nF) (.slice (some ⟨gS, 0, none⟩) p.code.length p.code.length))
          replace BXS := hide ((BXS.out.other (o := 0) (Ne.symm nS) (.slice (some ⟨gF, 0, none⟩) (ni + 1) (ni + 1))).other (o := 1) (Ne.symm nS) (.slice (some ⟨gS, 0, none⟩) p.code.length p.code.length))
          replace BXL := hide ((BXL.out.set0 (.slice (some ⟨gF, 0, none⟩) (ni + 1) (ni + 1))).set1 (.slice (some ⟨gS, 0, none⟩) p.code.length p.code.length))
          clear BXA
          refine hK _ _ (fun _ => HF'.out) ?_
          clear hK K HF hc0 hc1 hf0 hf1 nF nS
          have HF := hide HF'.out
          clear HF'
          generalize ((wzS.setCell ⟨gL, 0, none⟩ (.slice (some ⟨gF, 0, none⟩) (ni + 1) (ni + 1))).setCell ⟨gL, 1, none⟩ (.slice (some ⟨gS, 0, none⟩) p.code.length p.code.length)) = wz9 at *
          refine Calm.done (by kernel_rfl) ?_
          try simp only [List.setIfInBounds_toArray, List.set_cons_succ, List.set_cons_zero]
          go_wp2
          go_meet
          case rel => exact ⟨gL, gF, gS, rfl, HF.out, BXL.out, RF.out, BXS.out, GEL.out, GF.out, GES.out⟩
        · go_simp
          have al := below_alloc wzL (.cells (intCells (List.replicate p.code.length 0)).toArray 3)
          have HF' := hide (HF.out.trans ((al).mono HF.out.size))
          have BXS := hide (IArr.new wzL (List.replicate p.code.length 0))
          have LTAS := hide (BXA.out.lt)
          replace BXA := hide (BXA.out.step al)
          have LTLS := hide (BXL.out.lt)
          replace BXL := hide (BXL.out.step al)
          have GES := hide (HF.out.size)
          refine hK _ _ (fun _ => HF'.out) ?_
          clear hK K HF al
          have HF := hide HF'.out
          clear HF'
          generalize wzL.alloc (.cells (intCells (List.replicate p.code.length 0)).toArray 3) = wzS at *
          generalize wzL.heap.size = gS at *
          refine Calm.one (i := 4) (l' := #[true, true, true, true, true, true, true, true, true, false, true, false]) (by kernel_rfl) rfl rfl rfl fun K hK => ?_
          go_simp
          refine (hrep.out gA _ (BXA.out.cell (k := 0) (by simp))).mono ?_
          rintro e x1 ⟨gF, rfl, hge, hfr, hb⟩
          have GF := hide (Nat.le_trans HF.out.size hge)
          have RF := hide hfr
          clear hge hfr
          replace BXA := hide (BXA.out.step hb)
          replace BXL := hide (BXL.out.step hb)
          replace BXS := hide (BXS.out.step hb)
          have HF' := hide (HF.out.trans ((hb).mono HF.out.size))
          refine hK _ _ (fun _ => HF'.out) ?_
          clear hK K HF hb
          have HF := hide HF'.out
          clear HF'
          refine Calm.takeL 12 (i := 9) (v := ?_) (a' := ?_) (l' := #[true, true, true, true, true, true, true, true, true, true, true, false]) (d := some 23) (by kernel_rfl) rfl (by kernel_rfl) (by kernel_rfl) (by kernel_rfl) (by kernel_rfl) (fun _ _ _ h => h) HF.out rfl ?_ rfl rfl ?_ ?_
          rotate_left
          · intro w' hF; clear hF; go_simp; try rfl
          rotate_left
          · simp only [Act.put]; exact rfl
          refine Calm.one (i := 11) (l' := #[true, true, true, true, true, true, true, true, true, true, true, true]) (by kernel_rfl) rfl rfl rfl fun K hK => ?_
          have hc0 := BXL.out.cell0
          have hc1 := BXL.out.cell1
          have hf0 := BXL.out.free 0
          have hf1 := BXL.out.free 1
          go_simp
          have HF' := hide ((HF.out.setCell (p := ⟨gL, 0, none⟩) GEL.out (.slice (some ⟨gF, 0, none⟩) (ni + 1) (ni + 1))).setCell (p := ⟨gL, 1, none⟩) GEL.out (.slice (some ⟨gS, 0, none⟩) p.code.length p.code.length))
          have nF := RF.out.ne_cells BXL.out (by decide)
          have nS := BXS.out.ne_cells BXL.out (by decide)
          replace RF := hide ((RF.out.other (o := 0) (Ne.symm nF) (.slice (some ⟨gF, 0, none⟩) (ni + 1) (ni + 1))).other (o := 1) (Ne.symm nF) (.slice (some ⟨gS, 0, none⟩) p.code.length p.code.length))
          replace BXS := hide ((BXS.out.other (o := 0) (Ne.symm nS) (.slice (some ⟨gF, 0, none⟩) (ni + 1) (ni + 1))).other (o := 1) (Ne.symm nS) (.slice (some ⟨gS, 0, none⟩) p.code.length p.code.length))
          replace BXL := hide ((BXL.out.set0 (.slice (some ⟨gF, 0, none⟩) (ni + 1) (ni + 1))).set1 (.slice (some ⟨gS, 0, none⟩) p.code.length p.code.length))
          clear BXA
          refine hK _ _ (fun _ => HF'.out) ?_
          clear hK K HF hc0 hc1 hf0 hf1 nF nS
          have HF := hide HF'.out
          clear HF'
          generalize ((x1.setCell ⟨gL, 0, none⟩ (.slice (some ⟨gF, 0, none⟩) (ni + 1) (ni + 1))).setCell ⟨gL, 1, none⟩ (.slice (some ⟨gS, 0, none⟩) p.code.length p.code.length)) = wz9 at *
          refine Calm.done (by kernel_rfl) ?_
          try simp only [List.setIfInBounds_toArray, List.set_cons_succ, List.set_cons_zero]
          go_wp2
          go_meet
          case rel => exact ⟨gL, gF, gS, rfl, HF.out, BXL.out, RF.out, BXS.out, GEL.out, GF.out, GES.out⟩
    · go_simp
      have al := below_alloc w1d (.cells (intCells (List.replicate p.code.length 0)).toArray 3)
      have HF' := hide (HF.out.trans ((al).mono HF.out.size))
      have BXS := hide (IArr.new w1d (List.replicate p.code.length 0))
      have GES := hide (HF.out.size)
      refine hK _ _ (fun _ => HF'.out) ?_
      clear hK K HF al
      have HF := hide HF'.out
      clear HF'
      generalize w1d.alloc (.cells (intCells (List.replicate p.code.length 0)).toArray 3) = wzS at *
      generalize w1d.heap.size = gS at *
      refine Calm.two (i := 0) (j := 10) (l := #[true, true, true, true, false, true, true, true, true, false, false, false]) (l' := #[false, true, true, true, false, true, true, true, true, false, true, false]) (by kernel_rfl) rfl rfl rfl rfl rfl rfl (fun K hK => ?_) (fun K hK => ?_)
      · go_simp
        have al := below_alloc wzS (.cells #[.int .i64 (-1)] 3)
        have HF' := hide (HF.out.trans ((al).mono HF.out.size))
        have BXA := hide (show IArr (wzS.alloc (.cells #[.int .i64 (-1)] 3)) wzS.heap.size [-1] from IArr.new wzS [-1])
        have LTSA := hide (BXS.out.lt)
        replace BXS := hide (BXS.out.step al)
        have GEA := hide (HF.out.size)
        refine hK _ _ (fun _ => HF'.out) ?_
        clear hK K HF al
        have HF := hide HF'.out
        clear HF'
        generalize wzS.alloc (.cells #[.int .i64 (-1)] 3) = wzA at *
        generalize wzS.heap.size = gA at *
        refine Calm.two (i := 4) (j := 10) (l := #[true, true, true, true, true, true, true, true, true, false, false, false]) (l' := #[true, true, true, true, false, true, true, true, true, false, true, false]) (by kernel_rfl) rfl rfl rfl rfl rfl rfl (fun K hK => ?_) (fun K hK => ?_)
        · go_simp
          refine (hrep.out gA _ (BXA.out.cell (k := 0) (by simp))).mono ?_
          rintro e x1 ⟨gF, rfl, hge, hfr, hb⟩
          have GF := hide (Nat.le_trans HF.out.size hge)
          have RF := hide hfr
          clear hge hfr
          replace BXS := hide (BXS.out.step hb)
          replace BXA := hide (BXA.out.step hb)
          have HF' := hide (HF.out.trans ((hb).mono HF.out.size))
          refine hK _ _ (fun _ => HF'.out) ?_
          clear hK K HF hb
          have HF := hide HF'.out
          clear HF'
          refine Calm.takeL 12 (i := 9) (v := ?_) (a' := ?_) (l' := #[true, true, true, true, true, true, true, true, true, true, false, false]) (d := some 23) (by kernel_rfl) rfl (by kernel_rfl) (by kernel_rfl) (by kernel_rfl) (by kernel_rfl) (fun _ _ _ h => h) HF.out rfl ?_ rfl rfl ?_ ?_
          rotate_left
          · intro w' hF; clear hF; go_simp; try rfl
          rotate_left
          · simp only [Act.put]; exact rfl
          refine Calm.one (i := 10) (l' := #[true, true, true, true, true, true, true, true, true, true, true, false]) (by kernel_rfl) rfl rfl rfl fun K hK => ?_
          go_simp
          have al := below_alloc x1 (.cells #[.slice none 0 0, .slice none 0 0] 67)
          replace RF := hide (RF.out.step al)
          have HF' := hide (HF.out.trans ((al).mono HF.out.size))
          have BXL := hide (Box2.new x1 67 (.slice none 0 0) (.slice none 0 0))
          have LTSL := hide (BXS.out.lt)
          replace BXS := hide (BXS.out.step al)
          have LTAL := hide (BXA.out.lt)
          replace BXA := hide (BXA.out.step al)
          have GEL := hide (HF.out.size)
          refine hK _ _ (fun _ => HF'.out) ?_
          clear hK K HF al
          have HF := hide HF'.out
          clear HF'
          generalize x1.alloc (.cells #[.slice none 0 0, .slice none 0 0] 67) = wzL at *
          generalize x1.heap.size = gL at *
          refine Calm.one (i := 11) (l' := #[true, true, true, true, true, true, true, true, true, true, true, true]) (by kernel_rfl) rfl rfl rfl fun K hK => ?_
          have hc0 := BXL.out.cell0
          have hc1 := BXL.out.cell1
          have hf0 := BXL.out.free 0
          have hf1 := BXL.out.free 1
          go_simp
          have HF' := hide ((HF.out.setCell (p := ⟨gL, 0, none⟩) GEL.out (.slice (some ⟨gF, 0, none⟩) (ni + 1) (ni + 1))).setCell (p := ⟨gL, 1, none⟩) GEL.out (.slice (some ⟨gS, 0, none⟩) p.code.length p.code.length))
          have nF := RF.out.ne_cells BXL.out (by decide)
          have nS := BXS.out.ne_cells BXL.out (by decide)
          replace RF := hide ((RF.out.other (o := 0) (Ne.symm nF) (.slice (some ⟨gF, 0, none⟩) (ni + 1) (ni + 1))).other (o := 1) (Ne.symm nF) (.slice (some ⟨gS, 0, none⟩) p.code.length p.code.length))
          replace BXS := hide ((BXS.out.other (o := 0) (Ne.symm nS) (.slice (some ⟨gF, 0, none⟩) (ni + 1) (ni + 1))).other (o := 1) (Ne.symm nS) (.slice (some ⟨gS, 0, none⟩) p.code.length p.code.length))
          replace BXL := hide ((BXL.out.set0 (.slice (some ⟨gF, 0, none⟩) (ni + 1) (ni + 1))).set1 (.slice (some ⟨gS, 0, none⟩) p.code.length p.code.length))
          clear BXA
          refine hK _ _ (fun _ => HF'.out) ?_
          clear hK K HF hc0 hc1 hf0 hf1 nF nS
          have HF := hide HF'.out
          clear HF'
          generalize ((wzL.setCell ⟨gL, 0, none⟩ (.slice (some ⟨gF, 0, none⟩) (ni + 1) (ni + 1))).setCell ⟨gL, 1, none⟩ (.slice (some ⟨gS, 0, none⟩) p.code.length p.code.length)) = wz9 at *
          refine Calm.done (by kernel_rfl) ?_
          try simp only [List.setIfInBounds_toArray, List.set_cons_succ, List.set_cons_zero]
          go_wp2
          go_meet
          case rel => exact ⟨gL, gF, gS, rfl, HF.out, BXL.out, RF.out, BXS.out, GEL.out, GF.out, GES.out⟩
        · go_simp
          have al := below_alloc wzA (.cells #[.slice none 0 0, .slice none 0 0] 67)
          have HF' := hide (HF.out.trans ((al).mono HF.out.size))
          have BXL := hide (Box2.new wzA 67 (.slice none 0 0) (.slice none 0 0))
          have LTSL := hide (BXS.out.lt)
          replace BXS := hide (BXS.out.step al)
          have LTAL := hide (BXA.out.lt)
          replace BXA := hide (BXA.out.step al)
          have GEL := hide (HF.out.size)
          refine hK _ _ (fun _ => HF'.out) ?_
          clear hK K HF al
          have HF := hide HF'.out
          clear HF'
          generalize wzA.alloc (.cells #[.slice none 0 0, .slice none 0 0] 67) = wzL at *
          generalize wzA.heap.size = gL at *
          refine Calm.one (i := 4) (l' := #[true, true, true, true, true, true, true, true, true, false, true, false]) (by kernel_rfl) rfl rfl rfl fun K hK => ?_
          go_simp
          refine (hrep.out gA _ (BXA.out.cell (k := 0) (by simp))).mono ?_
          rintro e x1 ⟨gF, rfl, hge, hfr, hb⟩
          have GF := hide (Nat.le_trans HF.out.size hge)
          have RF := hide hfr
          clear hge hfr
          replace BXS := hide (BXS.out.step hb)
          replace BXA := hide (BXA.out.step hb)
          replace BXL := hide (BXL.out.step hb)
          have HF' := hide (HF.out.trans ((hb).mono HF.out.size))
          refine hK _ _ (fun _ => HF'.out) ?_
          clear hK K HF hb
          have HF := hide HF'.out
          clear HF'
          refine Calm.takeL 12 (i := 9) (v := ?_) (a' := ?_) (l' := #[true, true, true, true, true, true, true, true, true, true, true, false]) (d := some 23) (by kernel_rfl) rfl (by kernel_rfl) (by kernel_rfl) (by kernel_rfl) (by kernel_rfl) (fun _ _ _ h => h) HF.out rfl ?_ rfl rfl ?_ ?_
          rotate_left
          · intro w' hF; clear hF; go_simp; try rfl
          rotate_left
          · simp only [Act.put]; exact rfl
          refine Calm.one (i := 11) (l' := #[true, true, true, true, true, true, true, true, true, true, true, true]) (by kernel_rfl) rfl rfl rfl fun K hK => ?_
          have hc0 := BXL.out.cell0
          have hc1 := BXL.out.cell1
          have hf0 := BXL.out.free 0
          have hf1 := BXL.out.free 1
          go_simp
          have HF' := hide ((HF.out.setCell (p := ⟨gL, 0, none⟩) GEL.out (.slice (some ⟨gF, 0, none⟩) (ni + 1) (ni + 1))).setCell (p := ⟨gL, 1, none⟩) GEL.out (.slice (some ⟨gS, 0, none⟩) p.code.length p.code.length))
          have nF := RF.out.ne_cells BXL.out (by decide)
          have nS := BXS.out.ne_cells BXL.out (by decide)
          replace RF := hide ((RF.out.other (o := 0) (Ne.symm nF) (.slice (some ⟨gF, 0, none⟩) (ni + 1) (ni + 1))).other (o := 1) (Ne.symm nF) (.slice (some ⟨gS, 0, none⟩) p.code.length p.code.length))
          replace BXS := hide ((BXS.out.other (o := 0) (Ne.symm nS) (.slice (some ⟨gF, 0, none⟩) (ni + 1) (ni + 1))).other (o := 1) (Ne.symm nS) (.slice (some ⟨gS, 0, none⟩) p.code.length p.code.length))
          replace BXL := hide ((BXL.out.set0 (.slice (some ⟨gF, 0, none⟩) (ni + 1) (ni + 1))).set1 (.slice (some ⟨gS, 0, none⟩) p.code.length p.code.length))
          clear BXA
          refine hK _ _ (fun _ => HF'.out) ?_
          clear hK K HF hc0 hc1 hf0 hf1 nF nS
          have HF := hide HF'.out
          clear HF'
          generalize ((x1.setCell ⟨gL, 0, none⟩ (.slice (some ⟨gF, 0, none⟩) (ni + 1) (ni + 1))).setCell ⟨gL, 1, none⟩ (.slice (some ⟨gS, 0, none⟩) p.code.length p.code.length)) = wz9 at *
          refine Calm.done (by kernel_rfl) ?_
          try simp only [List.setIfInBounds_toArray, List.set_cons_succ, List.set_cons_zero]
          go_wp2
          go_meet
          case rel => exact ⟨gL, gF, gS, rfl, HF.out, BXL.out, RF.out, BXS.out, GEL.out, GF.out, GES.out⟩
      · go_simp
        have al := below_alloc wzS (.cells #[.slice none 0 0, .slice none 0 0] 67)
        have HF' := hide (HF.out.trans ((al).mono HF.out.size))
        have BXL := hide (Box2.new wzS 67 (.slice none 0 0) (.slice none 0 0))
        have LTSL := hide (BXS.out.lt)
        replace BXS := hide (BXS.out.step al)
        have GEL := hide (HF.out.size)
        refine hK _ _ (fun _ => HF'.out) ?_
        clear hK K HF al
        have HF := hide HF'.out
        clear HF'
        generalize wzS.alloc (.cells #[.slice none 0 0, .slice none 0 0] 67) = wzL at *
        generalize wzS.heap.size = gL at *
        refine Calm.one (i := 0) (l' := #[true, true, true, true, false, true, true, true, true, false, true, false]) (by kernel_rfl) rfl rfl rfl fun K hK => ?_
        go_simp
        have al := below_alloc wzL (.cells #[.int .i64 (-1)] 3)
        have HF' := hide (HF.out.trans ((al).mono HF.out.size))
        have BXA := hide (show IArr (wzL.alloc (.cells #[.int .i64 (-1)] 3)) wzL.heap.size [-1] from IArr.new wzL [-1])
        have LTSA := hide (BXS.out.lt)
        replace BXS := hide (BXS.out.step al)
        have LTLA := hide (BXL.out.lt)
        replace BXL := hide (BXL.out.step al)
        have GEA := hide (HF.out.size)
        refine hK _ _ (fun _ => HF'.out) ?_
        clear hK K HF al
        have HF := hide HF'.out
        clear HF'
        generalize wzL.alloc (.cells #[.int .i64 (-1)] 3) = wzA at *
        generalize wzL.heap.size = gA at *
        refine Calm.one (i := 4) (l' := #[true, true, true, true, true, true, true, true, true, false, true, false]) (by kernel_rfl) rfl rfl rfl fun K hK => ?_
        go_simp
        refine (hrep.out gA _ (BXA.out.cell (k := 0) (by simp))).mono ?_
        rintro e x1 ⟨gF, rfl, hge, hfr, hb⟩
        have GF := hide (Nat.le_trans HF.out.size hge)
        have RF := hide hfr
        clear hge hfr
        replace BXS := hide (BXS.out.step hb)
        replace BXL := hide (BXL.out.step hb)
        replace BXA := hide (BXA.out.step hb)
        have HF' := hide (HF.out.trans ((hb).mono HF.out.size))
        refine hK _ _ (fun _ => HF'.out) ?_
        clear hK K HF hb
        have HF := hide HF'.out
        clear HF'
        refine Calm.takeL 12 (i := 9) (v := ?_) (a' := ?_) (l' := #[true, true, true, true, true, true, true, true, true, true, true, false]) (d := some 23) (by kernel_rfl) rfl (by kernel_rfl) (by kernel_rfl) (by kernel_rfl) (by kernel_rfl) (fun _ _ _ h => h) HF.out rfl ?_ rfl rfl ?_ ?_
        rotate_left
        · intro w' hF; clear hF; go_simp; try rfl
        rotate_left
        · simp only [Act.put]; exact rfl
        refine Calm.one (i := 11) (l' := #[true, true, true, true, true, true, true, true, true, true, true, true]) (by kernel_rfl) rfl rfl rfl fun K hK => ?_
        have hc0 := BXL.out.cell0
        have hc1 := BXL.out.cell1
        have hf0 := BXL.out.free 0
        have hf1 := BXL.out.free 1
        go_simp
        have HF' := hide ((HF.out.setCell (p := ⟨gL, 0, none⟩) GEL.out (.slice (some ⟨gF, 0, none⟩) (ni + 1) (ni + 1))).setCell (p := ⟨gL, 1, none⟩) GEL.out (.slice (some ⟨gS, 0, none⟩) p.code.length p.code.length))
        have nF := RF.out.ne_cells BXL.out (by decide)
        have nS := BXS.out.ne_cells BXL.out (by decide)
        replace RF := hide ((RF.out.other (o := 0) (Ne.symm nF) (.slice (some ⟨gF, 0, none⟩) (ni + 1) (ni + 1))).other (o := 1) (Ne.symm nF) (.slice (some ⟨gS, 0, none⟩) p.code.length p.code.length))
        replace BXS := hide ((BXS.out.other (o := 0) (Ne.symm nS) (.slice (some ⟨gF, 0, none⟩) (ni + 1) (ni + 1))).other (o := 1) (Ne.symm nS) (.slice (some ⟨gS, 0, none⟩) p.code.length p.code.length))
        replace BXL := hide ((BXL.out.set0 (.slice (some ⟨gF, 0, none⟩) (ni + 1) (ni + 1))).set1 (.slice (some ⟨gS, 0, none⟩) p.code.length p.code.length))
        clear BXA
        refine hK _ _ (fun _ => HF'.out) ?_
        clear hK K HF hc0 hc1 hf0 hf1 nF nS
        have HF := hide HF'.out
        clear HF'
        generalize ((x1.setCell ⟨gL, 0, none⟩ (.slice (some ⟨gF, 0, none⟩) (ni + 1) (ni + 1))).setCell ⟨gL, 1, none⟩ (.slice (some ⟨gS, 0, none⟩) p.code.length p.code.length)) = wz9 at *
        refine Calm.done (by kernel_rfl) ?_
        try simp only [List.setIfInBounds_toArray, List.set_cons_succ, List.set_cons_zero]
        go_wp2
        go_meet
        case rel => exact ⟨gL, gF, gS, rfl, HF.out, BXL.out, RF.out, BXS.out, GEL.out, GF.out, GES.out⟩
    · go_simp
      have al := below_alloc w1d (.cells #[.slice none 0 0, .slice none 0 0] 67)
      have HF' := hide (HF.out.trans ((al).mono HF.out.size))
      have BXL := hide (Box2.new w1d 67 (.slice none 0 0) (.slice none 0 0))
      have GEL := hide (HF.out.size)
      refine hK _ _ (fun _ => HF'.out) ?_
      clear hK K HF al
      have HF := hide HF'.out
      clear HF'
      generalize w1d.alloc (.cells #[.slice none 0 0, .slice none 0 0] 67) = wzL at *
      generalize w1d.heap.size = gL at *
      refine Calm.two (i := 0) (j := 8) (l := #[true, true, true, true, false, true, true, true, false, false, true, false]) (l' := #[false, true, true, true, false, true, true, true, true, false, true, false]) (by kernel_rfl) rfl rfl rfl rfl rfl rfl (fun K hK => ?_) (fun K hK => ?_)
      · go_simp
        have al := below_alloc wzL (.cells #[.int .i64 (-1)] 3)
        have HF' := hide (HF.out.trans ((al).mono HF.out.size))
        have BXA := hide (show IArr (wzL.alloc (.cells #[.int .i64 (-1)] 3)) wzL.heap.size [-1] from IArr.new wzL [-1])
        have LTLA := hide (BXL.out.lt)
        replace BXL := hide (BXL.out.step al)
        have GEA := hide (HF.out.size)
        refine hK _ _ (fun _ => HF'.out) ?_
        clear hK K HF al
        have HF := hide HF'.out
        clear HF'
        generalize wzL.alloc (.cells #[.int .i64 (-1)] 3) = wzA at *
        generalize wzL.heap.size = gA at *
        refine Calm.two (i := 4) (j := 8) (l := #[true, true, true, true, true, true, true, true, false, false, true, false]) (l' := #[true, true, true, true, false, true, true, true, true, false, true, false]) (by kernel_rfl) rfl rfl rfl rfl rfl rfl (fun K hK => ?_) (fun K hK => ?_)
        · go_simp
          refine (hrep.out gA _ (BXA.out.cell (k := 0) (by simp))).mono ?_
          rintro e x1 ⟨gF, rfl, hge, hfr, hb⟩
          have GF := hide (Nat.le_trans HF.out.size hge)
          have RF := hide hfr
          clear hge hfr
          replace BXL := hide (BXL.out.step hb)
          replace BXA := hide (BXA.out.step hb)
          have HF' := hide (HF.out.trans ((hb).mono HF.out.size))
          refine hK _ _ (fun _ => HF'.out) ?_
          clear hK K HF hb
          have HF := hide HF'.out
          clear HF'
          refine Calm.one (i := 8) (l' := #[true, true, true, true, true, true, true, true, true, false, true, false]) (by kernel_rfl) rfl rfl rfl fun K hK => ?_
          go_simp
          have al := below_alloc x1 (.cells (intCells (List.replicate p.code.length 0)).toArray 3)
          replace RF := hide (RF.out.step al)
          have HF' := hide (HF.out.trans ((al).mono HF.out.size))
          have BXS := hide (IArr.new x1 (List.replicate p.code.length 0))
          have LTLS := hide (BXL.out.lt)
          replace BXL := hide (BXL.out.step al)
          have LTAS := hide (BXA.out.lt)
          replace BXA := hide (BXA.out.step al)
          have GES := hide (HF.out.size)
          refine hK _ _ (fun _ => HF'.out) ?_
          clear hK K HF al
          have HF := hide HF'.out
          clear HF'
          generalize x1.alloc (.cells (intCells (List.replicate p.code.length 0)).toArray 3) = wzS at *
          generalize x1.heap.size = gS at *
          refine Calm.takeL 12 (i := 9) (v := ?_) (a' := ?_) (l' := #[true, true, true, true, true, true, true, true, true, true, true, false]) (d := some 23) (by kernel_rfl) rfl (by kernel_rfl) (by kernel_rfl) (by kernel_rfl) (by kernel_rfl) (fun _ _ _ h => h) HF.out rfl ?_ rfl rfl ?_ ?_
          rotate_left
          · intro w' hF; clear hF; go_simp; try rfl
          rotate_left
          · simp only [Act.put]; exact rfl
          refine Calm.one (i := 11) (l' := #[true, true, true, true, true, true, true, true, true, true, true, true]) (by kernel_rfl) rfl rfl rfl fun K hK => ?_
          have hc0 := BXL.out.cell0
          have hc1 := BXL.out.cell1
          have hf0 := BXL.out.free 0
          have hf1 := BXL.out.free 1
          go_simp
          have HF' := hide ((HF.out.setCell (p := ⟨gL, 0, none⟩) GEL.out (.slice (some ⟨gF, 0, none⟩) (ni + 1) (ni + 1))).setCell (p := ⟨gL, 1, none⟩) GEL.out (.slice (some ⟨gS, 0, none⟩) p.code.length p.code.length))
          have nF := RF.out.ne_cells BXL.out (by decide)
          have nS := BXS.out.ne_cells BXL.out (by decide)
          replace RF := hide ((RF.out.other (o := 0) (Ne.symm nF) (.slice (some ⟨gF, 0, none⟩) (ni + 1) (ni + 1))).other (o := 1) (Ne.symm nF) (.slice (some ⟨gS, 0, none⟩) p.code.length p.code.length))
          replace BXS := hide ((BXS.out.other (o := 0) (Ne.symm nS) (.slice (some ⟨gF, 0, none⟩) (ni + 1) (ni + 1))).other (o := 1) (Ne.symm nS) (.slice (some ⟨gS, 0, none⟩) p.code.length p.code.length))
          replace BXL := hide ((BXL.out.set0 (.slice (some ⟨gF, 0, none⟩) (ni + 1) (ni + 1))).set1 (.slice (some ⟨gS, 0, none⟩) p.code.length p.code.length))
          clear BXA
          refine hK _ _ (fun _ => HF'.out) ?_
          clear hK K HF hc0 hc1 hf0 hf1 nF nS
          have HF := hide HF'.out
          clear HF'
          generalize ((wzS.setCell ⟨gL, 0, none⟩ (.slice (some ⟨gF, 0, none⟩) (ni + 1) (ni + 1))).setCell ⟨gL, 1, none⟩ (.slice (some ⟨gS, 0, none⟩) p.code.length p.code.length)) = wz9 at *
          refine Calm.done (by kernel_rfl) ?_
          try simp only [List.setIfInBounds_toArray, List.set_cons_succ, List.set_cons_zero]
          go_wp2
          go_meet
          case rel => exact ⟨gL, gF, gS, rfl, HF.out, BXL.out, RF.out, BXS.out, GEL.out, GF.out, GES.out⟩
        · go_simp
          have al := below_alloc wzA (.cells (intCells (List.replicate p.code.length 0)).toArray 3)
          have HF' := hide (HF.out.trans ((al).mono HF.out.size))
          have BXS := hide (IArr.new wzA (List.replicate p.code.length 0))
          have LTLS := hide (BXL.out.lt)
          replace BXL := hide (BXL.out.step al)
          have LTAS := hide (BXA.out.lt)
          replace BXA := hide (BXA.out.step al)
          have GES := hide (HF.out.size)
          refine hK _ _ (fun _ => HF'.out) ?_
          clear hK K HF al
          have HF := hide HF'.out
          clear HF'
          generalize wzA.alloc (.cells (intCells (List.replicate p.code.length 0)).toArray 3) = wzS at *
          generalize wzA.heap.size = gS at *
          refine Calm.one (i := 4) (l' := #[true, true, true, true, true, true, true, true, true, false, true, false]) (by kernel_rfl) rfl rfl rfl fun K hK => ?_
          go_simp
          refine (hrep.out gA _ (BXA.out.cell (k := 0) (by simp))).mono ?_
          rintro e x1 ⟨gF, rfl, hge, hfr, hb⟩
          have GF := hide (Nat.le_trans HF.out.size hge)
          have RF := hide hfr
          clear hge hfr
          replace BXL := hide (BXL.out.step hb)
          replace BXA := hide (BXA.out.step hb)
          replace BXS := hide (BXS.out.step hb)
          have HF' := hide (HF.out.trans ((hb).mono HF.out.size))
          refine hK _ _ (fun _ => HF'.out) ?_
          clear hK K HF hb
          have HF := hide HF'.out
          clear HF'
          refine Calm.takeL 12 (i := 9) (v := ?_) (a' := ?_) (l' := #[true, true, true, true, true, true, true, true, true, true, true, false]) (d := some 23) (by kernel_rfl) rfl (by kernel_rfl) (by kernel_rfl) (by kernel_rfl) (by kernel_rfl) (fun _ _ _ h => h) HF.out rfl ?_ rfl rfl ?_ ?_
          rotate_left
          · intro w' hF; clear hF; go_simp; try rfl
          rotate_left
          · simp only [Act.put]; exact rfl
          refine Calm.one (i := 11) (l' := #[true, true, true, true, true, true, true, true, true, true, true, true]) (by kernel_rfl) rfl rfl rfl fun K hK => ?_
          have hc0 := BXL.out.cell0
          have hc1 := BXL.out.cell1
          have hf0 := BXL.out.free 0
          have hf1 := BXL.out.free 1
          go_simp
          have HF' := hide ((HF.out.setCell (p := ⟨gL, 0, none⟩) GEL.out (.slice (some ⟨gF, 0, none⟩) (ni + 1) (ni + 1))).setCell (p := ⟨gL, 1, none⟩) GEL.out (.slice (some ⟨gS, 0, none⟩) p.code.length p.code.length))
          have nF := RF.out.ne_cells BXL.out (by decide)
          have nS := BXS.out.ne_cells BXL.out (by decide)
          replace RF := hide ((RF.out.other (o := 0) (Ne.symm nF) (.slice (some ⟨gF, 0, none⟩) (ni + 1) (ni + 1))).other (o := 1) (Ne.symm nF) (.slice (some ⟨gS, 0, none⟩) p.code.length p.code.length))
          replace BXS := hide ((BXS.out.other (o := 0) (Ne.symm nS) (.slice (some ⟨gF, 0, none⟩) (ni + 1) (ni + 1))).other (o := 1) (Ne.symm nS) (.slice (some ⟨gS, 0, none⟩) p.code.length p.code.length))
          replace BXL := hide ((BXL.out.set0 (.slice (some ⟨gF, 0, none⟩) (ni + 1) (ni + 1))).set1 (.slice (some ⟨gS, 0, none⟩) p.code.length p.code.length))
          clear BXA
          refine hK _ _ (fun _ => HF'.out) ?_
          clear hK K HF hc0 hc1 hf0 hf1 nF nS
          have HF := hide HF'.out
          clear HF'
          generalize ((x1.setCell ⟨gL, 0, none⟩ (.slice (some ⟨gF, 0, none⟩) (ni + 1) (ni + 1))).setCell ⟨gL, 1, none⟩ (.slice (some ⟨gS, 0, none⟩) p.code.length p.code.length)) = wz9 at *
          refine Calm.done (by kernel_rfl) ?_
          try simp only [List.setIfInBounds_toArray, List.set_cons_succ, List.set_cons_zero]
          go_wp2
          go_meet
          case rel => exact ⟨gL, gF, gS, rfl, HF.out, BXL.out, RF.out, BXS.out, GEL.out, GF.out, GES.out⟩
      · go_simp
        have al := below_alloc wzL (.cells (intCells (List.replicate p.code.length 0)).toArray 3)
        have HF' := hide (HF.out.trans ((al).mono HF.out.size))
        have BXS := hide (IArr.new wzL (List.replicate p.code.length 0))
        have LTLS := hide (BXL.out.lt)
        replace BXL := hide (BXL.out.step al)
        have GES := hide (HF.out.size)
        refine hK _ _ (fun _ => HF'.out) ?_
        clear hK K HF al
        have HF := hide HF'.out
        clear HF'
        generalize wzL.alloc (.cells (intCells (List.replicate p.code.length 0)).toArray 3) = wzS at *
        generalize wzL.heap.size = gS at *
        refine Calm.one (i := 0) (l' := #[true, true, true, true, false, true, true, true, true, false, true, false]) (by kernel_rfl) rfl rfl rfl fun K hK => ?_
        go_simp
        have al := below_alloc wzS (.cells #[.int .i64 (-1)] 3)
        have HF' := hide (HF.out.trans ((al).mono HF.out.size))
        have BXA := hide (show IArr (wzS.alloc (.cells #[.int .i64 (-1)] 3)) wzS.heap.size [-1] from IArr.new wzS [-1])
        have LTLA := hide (BXL.out.lt)
        replace BXL := hide (BXL.out.step al)
        have LTSA := hide (BXS.out.lt)
        replace BXS := hide (BXS.out.step al)
        have GEA := hide (HF.out.size)
        refine hK _ _ (fun _ => HF'.out) ?_
        clear hK K HF al
        have HF := hide HF'.out
        clear HF'
        generalize wzS.alloc (.cells #[.int .i64 (-1)] 3) = wzA at *
        generalize wzS.heap.size = gA at *
        refine Calm.one (i := 4) (l' := #[true, true, true, true, true, true, true, true, true, false, true, false]) (by kernel_rfl) rfl rfl rfl fun K hK => ?_
        go_simp
        refine (hrep.out gA _ (BXA.out.cell (k := 0) (by simp))).mono ?_
        rintro e x1 ⟨gF, rfl, hge, hfr, hb⟩
        have GF := hide (Nat.le_trans HF.out.size hge)
        have RF := hide hfr
        clear hge hfr
        replace BXL := hide (BXL.out.step hb)
        replace BXS := hide (BXS.out.step hb)
        replace BXA := hide (BXA.out.step hb)
        have HF' := hide (HF.out.trans ((hb).mono HF.out.size))
        refine hK _ _ (fun _ => HF'.out) ?_
        clear hK K HF hb
        have HF := hide HF'.out
        clear HF'
        refine Calm.takeL 12 (i := 9) (v := ?_) (a' := ?_) (l' := #[true, true, true, true, true, true, true, true, true, true, true, false]) (d := some 23) (by kernel_rfl) rfl (by kernel_rfl) (by kernel_rfl) (by kernel_rfl) (by kernel_rfl) (fun _ _ _ h => h) HF.out rfl ?_ rfl rfl ?_ ?_
        rotate_left
        · intro w' hF; clear hF; go_simp; try rfl
        rotate_left
        · simp only [Act.put]; exact rfl
        refine Calm.one (i := 11) (l' := #[true, true, true, true, true, true, true, true, true, true, true, true]) (by kernel_rfl) rfl rfl rfl fun K hK => ?_
        have hc0 := BXL.out.cell0
        have hc1 := BXL.out.cell1
        have hf0 := BXL.out.free 0
        have hf1 := BXL.out.free 1
        go_simp
        have HF' := hide ((HF.out.setCell (p := ⟨gL, 0, none⟩) GEL.out (.slice (some ⟨gF, 0, none⟩) (ni + 1) (ni + 1))).setCell (p := ⟨gL, 1, none⟩) GEL.out (.slice (some ⟨gS, 0, none⟩) p.code.length p.code.length))
        have nF := RF.out.ne_cells BXL.out (by decide)
        have nS := BXS.out.ne_cells BXL.out (by decide)
        replace RF := hide ((RF.out.other (o := 0) (Ne.symm nF) (.slice (some ⟨gF, 0, none⟩) (ni + 1) (ni + 1))).other (o := 1) (Ne.symm nF) (.slice (some ⟨gS, 0, none⟩) p.code.length p.code.length))
        replace BXS := hide ((BXS.out.other (o := 0) (Ne.symm nS) (.slice (some ⟨gF, 0, none⟩) (ni + 1) (ni + 1))).other (o := 1) (Ne.symm nS) (.slice (some ⟨gS, 0, none⟩) p.code.length p.code.length))
        replace BXL := hide ((BXL.out.set0 (.slice (some ⟨gF, 0, none⟩) (ni + 1) (ni + 1))).set1 (.slice (some ⟨gS, 0, none⟩) p.code.length p.code.length))
        clear BXA
        refine hK _ _ (fun _ => HF'.out) ?_
        clear hK K HF hc0 hc1 hf0 hf1 nF nS
        have HF := hide HF'.out
        clear HF'
        generalize ((x1.setCell ⟨gL, 0, none⟩ (.slice (some ⟨gF, 0, none⟩) (ni + 1) (ni + 1))).setCell ⟨gL, 1, none⟩ (.slice (some ⟨gS, 0, none⟩) p.code.length p.code.length)) = wz9 at *
        refine Calm.done (by kernel_rfl) ?_
        try simp only [List.setIfInBounds_toArray, List.set_cons_succ, List.set_cons_zero]
        go_wp2
        go_meet
        case rel => exact ⟨gL, gF, gS, rfl, HF.out, BXL.out, RF.out, BXS.out, GEL.out, GF.out, GES.out⟩
  case rest =>
    obtain ⟨gL, gF, gS, rfl, hb, hbl, hrf, hrs, g1, g2, g3⟩ := hcut
    have LX := hide hbl
    have RF := hide hrf
    have RS := hide hrs
    have GG := hide (And.intro g1 (And.intro g2 g3))
    have NFS := hide (rep_ne hrf hrs)
    have W0 := hide hb.size
    replace PX := hide (PX.out.step hb)
    replace RX := hide (RX.out.step hb)
    replace KO := hide (KO.out.below hb)
    replace HP := hide (HP.out.below hb)
    have BB := hide (HB.out.trans (hb.mono HB.out.size))
    have W1 := hide HB.out.size
    clear hb hbl hrf hrs g1 g2 g3 HB
    obtain ⟨w2, hw2⟩ : ∃ w2, w2 = wc := ⟨_, rfl⟩
    subst hw2
    have hrep : Hid (∀ (b : Nat) (w : World), w.cell? ⟨b, 0, none⟩ = some (.int .i64 (-1)) → Calls Try.prog 52 #[.slice (some ⟨b, 0, none⟩) 1 1, .int .i64 (m : Int)] w fun e w' => ∃ g, e = .returned (.slice (some ⟨g, 0, none⟩) m m) ∧ w.heap.size ≤ g ∧ IArr w' g (List.replicate m (-1)) ∧ Below w.heap.size w w') := hide (fun b w hc => rep_m1 b 0 1 m w (by omega) (by omega) hc)
    have c1 := PX.out.cell1
    rw [HM.out] at c1
    have al := below_alloc w2 (.cells #[.int .i64 (-1)] 3)
    have AX : Hid (IArr (w2.alloc (.cells #[.int .i64 (-1)] 3)) w2.heap.size [-1]) := hide (IArr.new w2 [-1])
    have lb := Box4.lt PX.out
    have AL := hide al
    clear al
    go_wp2_with fail
    refine (hrep.out _ _ (AX.out.cell (k := 0) (by simp))).mono ?_
    rintro e w3 ⟨gU, rfl, hge, hru, hb⟩
    clear c1 lb hrep AX
    replace hb := AL.out.trans (hb.mono AL.out.size)
    have RU := hide hru
    have GU : Hid (w2.heap.size ≤ gU) := hide (Nat.le_trans AL.out.size hge)
    clear hru hge AL
    have NG := hide (And.intro RF.out.lt RS.out.lt)
    have W23 := hide hb.size
    replace LX := hide (LX.out.step hb)
    replace RF := hide (RF.out.step hb)
    replace RS := hide (RS.out.step hb)
    replace PX := hide (PX.out.step hb)
    replace RX := hide (RX.out.step hb)
    replace KO := hide (KO.out.below hb)
    replace HP := hide (HP.out.below hb)
    replace BB := hide (BB.out.trans (hb.mono BB.out.size))
    clear hb
    go_upto_region 3 with fail
    have hb := below_alloc w3 (.cells #[.slice (some ⟨gU, 0, none⟩) m m] 23)
    have BU := hide (Boxed.new w3 23 (.slice (some ⟨gU, 0, none⟩) m m))
    replace LX := hide (LX.out.step hb)
    replace RF := hide (RF.out.step hb)
    replace RS := hide (RS.out.step hb)
    replace PX := hide (PX.out.step hb)
    replace RX := hide (RX.out.step hb)
    replace KO := hide (KO.out.below hb)
    replace HP := hide (HP.out.below hb)
    replace BB := hide (BB.out.trans (hb.mono BB.out.size))
    replace RU := hide (RU.out.step hb)
    have W3 := hide hb.size
    clear hb
    generalize w3.alloc (.cells #[.slice (some ⟨gU, 0, none⟩) m m] 23) = w4 at *
    have N0 : Hid (LD w w4 B R (.int .i64 p.ins) (.int .i64 p.regs) (.slice ca p.code.length cc) (.slice oa p.outs.length oc) gL w3.heap.size gF gS gU (ni + 1) p.code.length m (List.replicate (ni + 1) (-1)) (List.replicate p.code.length 0) (List.replicate m (-1))) := hide ⟨BB.out, PX.out, RX.out, LX.out, BU.out, RF.out, RS.out, RU.out, List.length_replicate .., List.length_replicate .., List.length_replicate .., ⟨by have h1 := W1.out; have h2 := GG.out.1; omega, by have h1 := W1.out; have h2 := W0.out; have h3 := W23.out; omega, by have h1 := W1.out; have h2 := GG.out.2.1; omega, by have h1 := W1.out; have h2 := GG.out.2.2; omega, by have h1 := W1.out; have h2 := W0.out; have h3 := GU.out; omega⟩, ⟨NFS.out, by have h1 := NG.out.1; have h2 := GU.out; omega, by have h1 := NG.out.2; have h2 := GU.out; omega⟩⟩
    generalize w3.heap.size = Bu at *
    clear LX BU RF RS RU GG NFS W0 W1 GU NG BB W23 W3 PX RX KO HP
    have c3 := N0.out.px.cell3
    go_wp2
    clear c3
    go_loopw [6, 31] (fun _ av wr => ∃ (a : Nat) (lu : List Int), a ≤ p.outs.length ∧ av = .int .i64 a ∧ LD w wr B R (.int .i64 p.ins) (.int .i64 p.regs) (.slice ca p.code.length cc) (.slice oa p.outs.length oc) gL Bu gF gS gU (ni + 1) p.code.length m (List.replicate (ni + 1) (-1)) (List.replicate p.code.length 0) lu ∧ ∀ r : Nat, r < m → ot lu r = if (r : Int) ∈ p.outs.take a then (p.code.length : Int) else -1) (fun _ av _ => p.outs.length - (intOf av).toNat)
    case atStart => exact ⟨0, _, Nat.zero_le _, rfl, N0.out, fun r hr => by rw [ot_rep hr]; simp⟩
    case round =>
      clear N0
      obtain ⟨a, lu, ha, rfl, hN, hQ⟩ := hrel
      have NN := hide hN
      have QQ := hide hQ
      clear hN hQ
      obtain ⟨wl, hwl⟩ : ∃ wl, wl = wr := ⟨_, rfl⟩
      subst hwl
      by_cases al : a < p.outs.length
      · obtain ⟨b, off, rfl, k1⟩ := (KO0.out.below NN.out.below).at al
        obtain ⟨g1, g2⟩ := P7.out a al
        have TK := hide (fun r : Int => ot_take_mem (r := r) al)
        obtain ⟨q, hq⟩ : ∃ q, q = ot p.outs a := ⟨_, rfl⟩
        rw [← hq] at k1 g1 g2 TK
        clear hq
        obtain ⟨t, rfl⟩ : ∃ t : Nat, q = t := ⟨q.toNat, by omega⟩
        have tm : t < m := by have := HM.out; omega
        have tl : t < lu.length := by rw [NN.out.hu]; exact tm
        have cw := NN.out.bu.cell
        have ct := NN.out.ru.cell tl
        have ft := NN.out.ru.free t
        have c2 := NN.out.px.cell2
        clear g1 g2
        go_wp2
        go_roundw
        case rel => exact ⟨a + 1, lu.set t (p.code.length : Int), by omega, by go_num, NN.out.setU t _, fun r hr => by
          have h1 := NN.out.hu
          have h2 := TK.out r
          have h3 := QQ.out r hr
          rw [ot_setI]
          by_cases e : t = r
          · subst e; rw [if_pos ⟨rfl, by omega⟩, if_pos (by simpa using h2)]
          · rw [if_neg (fun q => e q.1), h3]
            have h4 : ((r : Int) ∈ p.outs.take (a + 1)) ↔ ((r : Int) ∈ p.outs.take a) := by
              have e' : ¬ (t : Int) = r := by omega
              simpa [e'] using h2
            simp only [h4]⟩
        case measure => simp [intOf]; omega
      · have e : a = p.outs.length := by omega
        subst e
        rw [List.take_length] at QQ
        have c0 := NN.out.px.cell0
        have c1 := NN.out.px.cell1
        have c2 := NN.out.px.cell2
        have c3 := NN.out.px.cell3
        go_wp2_with fail
        refine (back_any _ p _ (HP0.out.below NN.out.below) hl4 p.code (by rw [hr]; rfl)).mono ?_
        rintro e w8 ⟨⟨bx, vb, rfl, hx1, hx2, hxc, hO⟩, hb⟩
        clear c0 c1 c2 c3
        have L1 : Hid (gF < wl.heap.size ∧ gS < wl.heap.size ∧ gU < wl.heap.size ∧ gL < wl.heap.size ∧ Bu < wl.heap.size ∧ B < wl.heap.size ∧ R < wl.heap.size) := hide ⟨NN.out.rf.lt, NN.out.rs.lt, NN.out.ru.lt, NN.out.bl.lt, NN.out.bu.lt, Box4.lt NN.out.px, NN.out.rx.lt⟩
        have WR : Hid (w.heap.size ≤ wl.heap.size) := hide NN.out.below.size
        have HW8 := hide hb.size
        have N8 := hide (NN.out.step hb)
        clear hb NN
        have X1 := hide hx1
        have X2 := hide hx2
        have CX := hide hxc
        have OC := hide hO
        clear hx1 hx2 hxc hO
        generalize wl.heap.size = lo at *
        go_wp2_with fail
        refine (wpIn_wide (n := 3)).1 ?_
        refine range_lv (code := p.code) (by omega) (gf := 62) (lb := #[.pointer (some ⟨bx, 0, none⟩)]) rfl (enters_of Try.func62 (by kernel_rfl) rfl)
          (back_stopsF 2 (by omega) bx lo w8.heap.size lo vb p.code (by omega) w8 OC.out (Nat.le_refl _) rfl X1.out X2.out CX.out) Keeps.trans
          (fun W l o o' hl _ _ _ k _ h2 => by rw [World.putObj_heap_other (by omega)]) (Below.refl _ _) (fun _ => rfl)
          (LI p w B R (.int .i64 p.ins) (.int .i64 p.regs) (.slice ca p.code.length cc) (.slice oa p.outs.length oc) gL Bu gF gS gU (ni + 1) m w8.heap.size) (LI.from (by have := WR.out; have := HW8.out; omega)) ⟨_, _, _, N8.out, Nat.le_refl _, rfl, fun r hr => by rw [QQ.out r hr]; rfl, fun k hk => by rw [ot_rep hk]; rfl⟩ ?assign ?body ?done
        case assign =>
          intro l pre x W K hI hK
          obtain ⟨lf, ls, lu, hN, hz, e0, e1, e2⟩ := hI
          obtain ⟨kx, hkx⟩ := x
          unfold encF encN
          dsimp only
          obtain ⟨xi, hxi⟩ : ∃ xi, xi = cd p.code kx := ⟨_, rfl⟩
          rw [← hxi]
          have HX := hide hxi
          clear hxi
          simp only [List.zip_toArray, List.zip_cons_cons, List.zip_nil_right, List.foldl_toArray', List.size_toArray, List.length_cons, List.length_nil, List.foldl_cons, List.foldl_nil, List.setIfInBounds_toArray, List.set_cons_succ, List.set_cons_zero]
          gi_wp2
          have b5 := Box5.new W 40 xi
          have ks := KeepsOthers.alloc W (.cells xi.vals 40)
          have kp := keeps_alloc (lo := lo) (hi := w8.heap.size) W (.cells xi.vals 40) hz
          have hN' := hN.step (below_alloc W (.cells xi.vals 40))
          have hz' := Nat.le_trans hz (below_alloc W (.cells xi.vals 40)).size
          unfold Ins.vals at b5 ks kp hN' hz'
          generalize W.alloc (.cells #[.int .i64 xi.op, .int .i64 xi.to, .int .i64 xi.a, .int .i64 xi.b, .int .i64 xi.c] 40) = W' at *
          generalize W.heap.size = gx at *
          exact hK _ _ (ks.from _) kp ⟨lf, ls, lu, hN', hz', e0, e1, e2⟩ ⟨gx, by simp only [frL, encF, encN, ← HX.out, List.zip_toArray, List.zip_cons_cons, List.zip_nil_right, List.foldl_toArray', List.size_toArray, List.length_cons, List.length_nil, List.foldl_cons, List.foldl_nil, List.setIfInBounds_toArray, List.set_cons_succ, List.set_cons_zero], by show Box5 W' gx _ (cd p.code kx); rw [← HX.out]; exact b5⟩
        case body =>
          rintro l pre x gx W ⟨lf, ls, lu, hN, hz, e0, e1, e2⟩ hbx
          have WS := hide (urun_step (p := p) (pre := pre) (x := x))
          obtain ⟨kx, hkx⟩ := x
          dsimp only at hbx WS
          have MY := hide (P8.out kx hkx)
          unfold frL encF encN
          dsimp only
          obtain ⟨xi, hxi⟩ : ∃ xi, xi = cd p.code kx := ⟨_, rfl⟩
          unfold ustp at WS
          rw [← hxi] at hbx MY WS ⊢
          clear hxi
          simp only [List.zip_toArray, List.zip_cons_cons, List.zip_nil_right, List.foldl_toArray', List.size_toArray, List.length_cons, List.length_nil, List.foldl_cons, List.foldl_nil, List.setIfInBounds_toArray, List.set_cons_succ, List.set_cons_zero]
          obtain ⟨t, ht⟩ : ∃ t : Nat, xi.to = t := ⟨xi.to.toNat, by have := (may_parts MY.out).1; omega⟩
          have tm : t < m := by have := (may_parts MY.out).2.1; have := HM.out; omega
          have NN := hide hN
          have E0 := hide e0
          have E1 := hide e1
          have E2 := hide e2
          have HT := hide ht
          have HZ8 := hide hz
          have BX := hide hbx
          clear hN e0 e1 e2 hz hbx
          obtain ⟨s, hs⟩ : ∃ s, s = urun p (pre.map (fun x => x.1)) := ⟨_, rfl⟩
          rw [← hs] at E1 E2 WS
          clear hs
          have tl : t < lu.length := by rw [NN.out.hu]; exact tm
          have kl : kx < ls.length := by rw [NN.out.hs]; exact hkx
          have cu := NN.out.bu.cell
          have cb0 := NN.out.bl.cell0
          have cb1 := NN.out.bl.cell1
          have ct := NN.out.ru.cell tl
          have y0 := BX.out.cells.cell0
          have y1 := BX.out.cells.cell1
          have y2 := BX.out.cells.cell2
          have y3 := BX.out.cells.cell3
          have y4 := BX.out.cells.cell4
          simp only [Nat.zero_add] at y1 y2 y3 y4
          rw [ht] at y1 ⊢
          rw [ht] at WS
          have EU : ot lu t = s.U t := E1.out t tm
          have ck := NN.out.rs.cell kl
          have fk := NN.out.rs.free kx
          have ne1 : Bu ≠ gS := fun e => NN.out.nb.2.2.2.2.1 e.symm
          have ne2 : gx ≠ gS := fun e => NN.out.rs.ne_cells BX.out (by decide) e.symm
          have ne3 : gU ≠ gS := fun e => NN.out.ne.2.2 e.symm
          have ne4 : gx ≠ gU := fun e => NN.out.ru.ne_cells BX.out (by decide) e.symm
          obtain ⟨u, hu⟩ : ∃ u, u = ot lu t := ⟨_, rfl⟩
          rw [← hu] at ct EU
          have HU := hide hu
          have EU2 := hide EU
          clear hu EU
          gi_upto_region 11 with fail
          clear cu cb0 cb1 ct ck fk y0 y1 y2 y3 y4
          refine wp_calmI (fun w' => Below W.heap.size W w') (fun j => j != 9) 10 #[false, false, false, false, false, false, false, false, false, false] (by kernel_rfl) rfl rfl (by kernel_rfl) (fun ⟨_, _, h⟩ => h) ?_
          have HF := hide ((Below.refl W.heap.size W).drew)
          generalize W.drew = Wd at *
          refine Calm.takeL 10 (i := 0) (v := ?_) (a' := ?_) (l' := #[true, false, false, false, false, false, false, false, false, false]) (d := some 46) (by kernel_rfl) rfl (by kernel_rfl) (by kernel_rfl) (by kernel_rfl) (by kernel_rfl) (fun _ _ _ h => h) HF.out rfl ?_ rfl rfl ?_ ?_
          rotate_left
          · intro w' hF; clear hF; go_simp; try rfl
          rotate_left
          · simp only [Act.put]; exact rfl
          refine Calm.takeL 10 (i := 1) (v := ?_) (a' := ?_) (l' := #[true, true, false, false, false, false, false, false, false, false]) (d := some 47) (by kernel_rfl) rfl (by kernel_rfl) (by kernel_rfl) (by kernel_rfl) (by kernel_rfl) (fun _ _ _ h => h) HF.out rfl ?_ rfl rfl ?_ ?_
          rotate_left
          · intro w' hF; have cu := (NN.out.step hF).bu.cell; have cb1 := (NN.out.step hF).bl.cell1; have ct := (NN.out.step hF).ru.cell tl; rw [← HU.out] at ct; have y0 := (BX.out.step hF).cells.cell0; have y1 := (BX.out.step hF).cells.cell1; have y2 := (BX.out.step hF).cells.cell2; have y3 := (BX.out.step hF).cells.cell3; have y4 := (BX.out.step hF).cells.cell4; simp only [Nat.zero_add] at y1 y2 y3 y4; rw [HT.out] at y1; clear hF; go_simp; try rfl
          rotate_left
          · simp only [Act.put]; exact rfl
          refine Calm.takeL 10 (i := 2) (v := ?_) (a' := ?_) (l' := #[true, true, true, false, false, false, false, false, false, false]) (d := some 48) (by kernel_rfl) rfl (by kernel_rfl) (by kernel_rfl) (by kernel_rfl) (by kernel_rfl) (fun _ _ _ h => h) HF.out rfl ?_ rfl rfl ?_ ?_
          rotate_left
          · intro w' hF; clear hF; go_simp; try rfl
          rotate_left
          · simp only [Act.put]; exact rfl
          refine Calm.takeL 10 (i := 3) (v := ?_) (a' := ?_) (l' := #[true, true, true, true, false, false, false, false, false, false]) (d := some 49) (by kernel_rfl) rfl (by kernel_rfl) (by kernel_rfl) (by kernel_rfl) (by kernel_rfl) (fun _ _ _ h => h) HF.out rfl ?_ rfl rfl ?_ ?_
          rotate_left
          · intro w' hF; have cu := (NN.out.step hF).bu.cell; have cb1 := (NN.out.step hF).bl.cell1; have ct := (NN.out.step hF).ru.cell tl; rw [← HU.out] at ct; have y0 := (BX.out.step hF).cells.cell0; have y1 := (BX.out.step hF).cells.cell1; have y2 := (BX.out.step hF).cells.cell2; have y3 := (BX.out.step hF).cells.cell3; have y4 := (BX.out.step hF).cells.cell4; simp only [Nat.zero_add] at y1 y2 y3 y4; rw [HT.out] at y1; clear hF; go_simp; try rfl
          rotate_left
          · simp only [Act.put]; exact rfl
          refine Calm.takeL 10 (i := 4) (v := ?_) (a' := ?_) (l' := #[true, true, true, true, true, false, false, false, false, false]) (d := some 50) (by kernel_rfl) rfl (by kernel_rfl) (by kernel_rfl) (by kernel_rfl) (by kernel_rfl) (fun _ _ _ h => h) HF.out rfl ?_ rfl rfl ?_ ?_
          rotate_left
          · intro w' hF; clear hF; go_simp; try rfl
          rotate_left
          · simp only [Act.put]; exact rfl
          refine Calm.takeL 10 (i := 5) (v := ?_) (a' := ?_) (l' := #[true, true, true, true, true, true, false, false, false, false]) (d := some 51) (by kernel_rfl) rfl (by kernel_rfl) (by kernel_rfl) (by kernel_rfl) (by kernel_rfl) (fun _ _ _ h => h) HF.out rfl ?_ rfl rfl ?_ ?_
          rotate_left
          · intro w' hF; have cu := (NN.out.step hF).bu.cell; have cb1 := (NN.out.step hF).bl.cell1; have ct := (NN.out.step hF).ru.cell tl; rw [← HU.out] at ct; have y0 := (BX.out.step hF).cells.cell0; have y1 := (BX.out.step hF).cells.cell1; have y2 := (BX.out.step hF).cells.cell2; have y3 := (BX.out.step hF).cells.cell3; have y4 := (BX.out.step hF).cells.cell4; simp only [Nat.zero_add] at y1 y2 y3 y4; rw [HT.out] at y1; clear hF; go_simp; try rfl
          rotate_left
          · simp only [Act.put]; exact rfl
          refine Calm.takeL 10 (i := 6) (v := ?_) (a' := ?_) (l' := #[true, true, true, true, true, true, true, false, false, false]) (d := some 52) (by kernel_rfl) rfl (by kernel_rfl) (by kernel_rfl) (by kernel_rfl) (by kernel_rfl) (fun _ _ _ h => h) HF.out rfl ?_ rfl rfl ?_ ?_
          rotate_left
          · intro w' hF; clear hF; go_simp; try rfl
          rotate_left
          · simp only [Act.put]; exact rfl
          refine Calm.takeL 10 (i := 7) (v := ?_) (a' := ?_) (l' := #[true, true, true, true, true, true, true, true, false, false]) (d := some 53) (by kernel_rfl) rfl (by kernel_rfl) (by kernel_rfl) (by kernel_rfl) (by kernel_rfl) (fun _ _ _ h => h) HF.out rfl ?_ rfl rfl ?_ ?_
          rotate_left
          · intro w' hF; have cu := (NN.out.step hF).bu.cell; have cb1 := (NN.out.step hF).bl.cell1; have ct := (NN.out.step hF).ru.cell tl; rw [← HU.out] at ct; have y0 := (BX.out.step hF).cells.cell0; have y1 := (BX.out.step hF).cells.cell1; have y2 := (BX.out.step hF).cells.cell2; have y3 := (BX.out.step hF).cells.cell3; have y4 := (BX.out.step hF).cells.cell4; simp only [Nat.zero_add] at y1 y2 y3 y4; rw [HT.out] at y1; clear hF; go_simp; try rfl
          rotate_left
          · simp only [Act.put]; exact rfl
          refine Calm.takeL 10 (i := 8) (v := ?_) (a' := ?_) (l' := #[true, true, true, true, true, true, true, true, true, false]) (d := some 54) (by kernel_rfl) rfl (by kernel_rfl) (by kernel_rfl) (by kernel_rfl) (by kernel_rfl) (fun _ _ _ h => h) HF.out rfl ?_ rfl rfl ?_ ?_
          rotate_left
          · intro w' hF; clear hF; go_simp; try rfl
          rotate_left
          · simp only [Act.put]; exact rfl
          refine Calm.one (i := 9) (l' := #[true, true, true, true, true, true, true, true, true, true]) (by kernel_rfl) rfl rfl rfl fun K hK => ?_
          have NZ := hide (NN.out.step HF.out)
          have ck := NZ.out.rs.cell kl
          have fk := NZ.out.rs.free kx
          go_simp
          refine hK _ _ (fun h => absurd h (by decide)) ?_
          clear hK K
          refine Calm.done (by kernel_rfl) ?_
          try simp only [List.setIfInBounds_toArray, List.set_cons_succ, List.set_cons_zero]
          have N2 := hide (NZ.out.setS kx u)
          have KO2 := hide ((ko_below HF.out).trans (KeepsOthers.setCell Wd ⟨gS, kx, none⟩ (.int .i64 u)))
          have KP2 := hide ((keeps_below (lo := lo) (hi := w8.heap.size) HF.out HZ8.out).trans (keeps_set (lo := lo) (hi := w8.heap.size) (o := kx) Wd (.int .i64 u) L1.out.2.1))
          have BX2 := hide ((BX.out.step HF.out).set_ne (C := gS) (o := kx) (fun e => ne2 e.symm) (.int .i64 u))
          have HZ2 : Hid (w8.heap.size ≤ (Wd.setCell ⟨gS, kx, none⟩ (.int .i64 u)).heap.size) := hide (Nat.le_trans HZ8.out KO2.out.size)
          clear NZ NN BX ck fk HF HZ8 ne1 ne2 ne3
          generalize Wd.setCell ⟨gS, kx, none⟩ (.int .i64 u) = W2 at *
          have cu := N2.out.bu.cell
          have ct := N2.out.ru.cell tl
          rw [← HU.out] at ct
          have y1 := BX2.out.cells.cell1
          simp only [Nat.zero_add] at y1
          rw [HT.out] at y1
          by_cases hum : u = -1
          · have WU : Hid (ustep s.U kx xi = s.U) := hide (by unfold ustep; rw [HT.out]; exact if_pos (by rw [← EU2.out]; exact hum))
            subst hum
            gi_wp2
            exact ⟨KO2.out.from _, KP2.out, lf, ls.set kx (-1), lu, N2.out, HZ2.out, E0.out, fun r hr => by rw [WS.out, WU.out]; exact E1.out r hr, fun k hk => by
              rw [WS.out]
              show ot (ls.set kx (-1)) k = if k = kx then s.U (t : Int) else s.S k
              rw [ot_setI]
              by_cases e : k = kx
              · subst e; rw [if_pos ⟨rfl, kl⟩, if_pos rfl, ← EU2.out]
              · rw [if_neg (fun q => e q.1.symm), if_neg e, E2.out k hk]⟩
          · have WU : Hid (ustep s.U kx xi = fun r => if r ∈ asksL xi then max (if r = (t : Int) then -1 else s.U r) kx else (if r = (t : Int) then -1 else s.U r)) := hide (by unfold ustep; rw [HT.out]; exact if_neg (by rw [← EU2.out]; exact hum))
            have hum' : (u == -1) = false := by simpa using hum
            have ft := N2.out.ru.free t
            gi_upto_region 14 with fail
            have N3 := hide (N2.out.setU t (-1))
            have KO3 := hide (KO2.out.trans (KeepsOthers.setCell W2 ⟨gU, t, none⟩ (.int .i64 (-1))))
            have KP3 := hide (KP2.out.trans (keeps_set (lo := lo) (hi := w8.heap.size) (o := t) W2 (.int .i64 (-1)) L1.out.2.2.1))
            have BX3 := hide (BX2.out.set_ne (C := gU) (o := t) (fun e => ne4 e.symm) (.int .i64 (-1)))
            have HZ3 : Hid (w8.heap.size ≤ (W2.setCell ⟨gU, t, none⟩ (.int .i64 (-1))).heap.size) := hide (Nat.le_trans HZ2.out (KeepsOthers.setCell W2 ⟨gU, t, none⟩ (.int .i64 (-1))).size)
            clear N2 KO2 KP2 BX2 HZ2 cu ct y1 ft ne4 hum hum'
            generalize W2.setCell ⟨gU, t, none⟩ (.int .i64 (-1)) = W3 at *
            have y0 := BX3.out.cells.cell0
            have y1 := BX3.out.cells.cell1
            have y2 := BX3.out.cells.cell2
            have y3 := BX3.out.cells.cell3
            have y4 := BX3.out.cells.cell4
            simp only [Nat.zero_add] at y1 y2 y3 y4
            rw [HT.out] at y1
            have AS : Hid (Calls Try.prog 54 #[.agg #[.int .i64 xi.op, .int .i64 (t : Int), .int .i64 xi.a, .int .i64 xi.b, .int .i64 xi.c]] W3 fun e w' => (∃ g, e = .returned (.slice (some ⟨g, 0, none⟩) (asksL xi).length (asksL xi).length) ∧ W3.heap.size ≤ g ∧ IArr w' g (asksL xi)) ∧ Below W3.heap.size W3 w') := hide (by rw [← HT.out]; exact asks_arr xi W3 (by have := may_parts MY.out; omega))
            gi_wp2_with (refine ⟨trivial, ?_⟩; gi_at_call 54; refine (CallsIn.inRound l (callsIn_wide.2 AS.out)).mono ?_; rintro e W4 ⟨⟨gA, rfl, hga, hva⟩, hb⟩; have VA := hide hva; have GA : Hid (gU ≠ gA) := hide (by have h1 := N3.out.ru.lt; omega); have N4 := hide (N3.out.step hb); have KO4 := hide (KO3.out.trans (ko_below hb)); have KP4 := hide (KP3.out.trans (keeps_below hb HZ3.out)); have HZ4 := hide (Nat.le_trans HZ3.out hb.size); clear hva hb hga)
            clear N3 KO3 KP3 BX3 HZ3 y0 y1 y2 y3 y4 AS
            gi_loopw [10, 68] (fun _ av wr => ∃ (a : Nat) (l2 : List Int), a ≤ (asksL xi).length ∧ av = .int .i64 a ∧ LD w wr B R (.int .i64 p.ins) (.int .i64 p.regs) (.slice ca p.code.length cc) (.slice oa p.outs.length oc) gL Bu gF gS gU (ni + 1) p.code.length m lf (ls.set kx u) l2 ∧ KeepsOthers W wr ∧ Keeps lo w8.heap.size W wr ∧ w8.heap.size ≤ wr.heap.size ∧ IArr wr gA (asksL xi) ∧ ∀ r : Nat, r < m → ot l2 r = if (r : Int) ∈ (asksL xi).take a then max (ot (lu.set t (-1)) r) kx else ot (lu.set t (-1)) r) (fun _ av _ => (asksL xi).length - (intOf av).toNat)
            case atStart => exact ⟨0, _, Nat.zero_le _, rfl, N4.out, KO4.out, KP4.out, HZ4.out, VA.out, fun r _ => by simp⟩
            case round =>
              clear N4 KO4 KP4 HZ4 VA
              obtain ⟨a, l2, ha, rfl, hN, hKO, hKP, hz, hVA, hQ⟩ := hrel
              have NN := hide hN
              have KO3 := hide hKO
              have KP3 := hide hKP
              have HZ3 := hide hz
              have VA := hide hVA
              have QA := hide hQ
              clear hN hKO hKP hz hVA hQ
              obtain ⟨wz, hwz⟩ : ∃ wz, wz = wr := ⟨_, rfl⟩
              subst hwz
              have a2 := asks_two xi
              by_cases al : a < (asksL xi).length
              · have k1 := VA.out.cell al
                have g1 := asks_may MY.out _ (ot_mem al)
                have TK := hide (fun r : Int => ot_take_mem (r := r) al)
                obtain ⟨q, hq⟩ : ∃ q, q = ot (asksL xi) a := ⟨_, rfl⟩
                rw [← hq] at k1 g1 TK
                clear hq
                obtain ⟨v, rfl⟩ : ∃ v : Nat, q = v := ⟨q.toNat, by omega⟩
                have um : v < m := by have := HM.out; omega
                have ul : v < l2.length := by rw [NN.out.hu]; exact um
                clear g1
                gi_upto_region 17 with fail
                clear k1
                refine wp_calmI (fun w' => Below wz.heap.size wz w') (fun j => j != 9) 10 #[false, false, false, false, false, false, false, false, false, false] (by kernel_rfl) rfl rfl (by kernel_rfl) (fun ⟨_, _, h⟩ => h) ?_
                have HF := hide ((Below.refl wz.heap.size wz).drew)
                generalize wz.drew = wzd at *
                refine Calm.takeL 10 (i := 0) (v := ?_) (a' := ?_) (l' := #[true, false, false, false, false, false, false, false, false, false]) (d := some 72) (by kernel_rfl) rfl (by kernel_rfl) (by kernel_rfl) (by kernel_rfl) (by kernel_rfl) (fun _ _ _ h => h) HF.out rfl ?_ rfl rfl ?_ ?_
                rotate_left
                · intro w' hF; have cu := (NN.out.step hF).bu.cell; have ct := (NN.out.step hF).ru.cell ul; clear hF; go_simp; try rfl
                rotate_left
                · simp only [Act.put]; exact rfl
                refine Calm.takeL 10 (i := 1) (v := ?_) (a' := ?_) (l' := #[true, true, false, false, false, false, false, false, false, false]) (d := some 73) (by kernel_rfl) rfl (by kernel_rfl) (by kernel_rfl) (by kernel_rfl) (by kernel_rfl) (fun _ _ _ h => h) HF.out rfl ?_ rfl rfl ?_ ?_
                rotate_left
                · intro w' hF; clear hF; go_simp; try rfl
                rotate_left
                · simp only [Act.put]; exact rfl
                refine Calm.takeL 10 (i := 2) (v := ?_) (a' := ?_) (l' := #[true, true, true, false, false, false, false, false, false, false]) (d := some 74) (by kernel_rfl) rfl (by kernel_rfl) (by kernel_rfl) (by kernel_rfl) (by kernel_rfl) (fun _ _ _ h => h) HF.out rfl ?_ rfl rfl ?_ ?_
                rotate_left
                · intro w' hF; have cu := (NN.out.step hF).bu.cell; have ct := (NN.out.step hF).ru.cell ul; clear hF; go_simp; try rfl
                rotate_left
                · simp only [Act.put]; exact rfl
                refine Calm.takeL 10 (i := 3) (v := ?_) (a' := ?_) (l' := #[true, true, true, true, false, false, false, false, false, false]) (d := some 75) (by kernel_rfl) rfl (by kernel_rfl) (by kernel_rfl) (by kernel_rfl) (by kernel_rfl) (fun _ _ _ h => h) HF.out rfl ?_ rfl rfl ?_ ?_
                rotate_left
                · intro w' hF; clear hF; go_simp; try rfl
                rotate_left
                · simp only [Act.put]; exact rfl
                refine Calm.takeL 10 (i := 4) (v := ?_) (a' := ?_) (l' := #[true, true, true, true, true, false, false, false, false, false]) (d := some 76) (by kernel_rfl) rfl (by kernel_rfl) (by kernel_rfl) (by kernel_rfl) (by kernel_rfl) (fun _ _ _ h => h) HF.out rfl ?_ rfl rfl ?_ ?_
                rotate_left
                · intro w' hF; clear hF; go_simp; try rfl
                rotate_left
                · simp only [Act.put]; exact rfl
                refine Calm.takeL 10 (i := 5) (v := ?_) (a' := ?_) (l' := #[true, true, true, true, true, true, false, false, false, false]) (d := some 77) (by kernel_rfl) rfl (by kernel_rfl) (by kernel_rfl) (by kernel_rfl) (by kernel_rfl) (fun _ _ _ h => h) HF.out rfl ?_ rfl rfl ?_ ?_
                rotate_left
                · intro w' hF; have cu := (NN.out.step hF).bu.cell; have ct := (NN.out.step hF).ru.cell ul; clear hF; go_simp; try rfl
                rotate_left
                · simp only [Act.put]; exact rfl
                refine Calm.takeL 10 (i := 6) (v := ?_) (a' := ?_) (l' := #[true, true, true, true, true, true, true, false, false, false]) (d := some 78) (by kernel_rfl) rfl (by kernel_rfl) (by kernel_rfl) (by kernel_rfl) (by kernel_rfl) (fun _ _ _ h => h) HF.out rfl ?_ rfl rfl ?_ ?_
                rotate_left
                · intro w' hF; clear hF; go_simp; try rfl
                rotate_left
                · simp only [Act.put]; exact rfl
                refine Calm.takeL 10 (i := 7) (v := ?_) (a' := ?_) (l' := #[true, true, true, true, true, true, true, true, false, false]) (d := some 79) (by kernel_rfl) rfl (by kernel_rfl) (by kernel_rfl) (by kernel_rfl) (by kernel_rfl) (fun _ _ _ h => h) HF.out rfl ?_ rfl rfl ?_ ?_
                rotate_left
                · intro w' hF; clear hF; go_simp; try rfl
                rotate_left
                · simp only [Act.put]; exact rfl
                refine Calm.takeL 10 (i := 8) (v := ?_) (a' := ?_) (l' := #[true, true, true, true, true, true, true, true, true, false]) (d := some 80) (by kernel_rfl) rfl (by kernel_rfl) (by kernel_rfl) (by kernel_rfl) (by kernel_rfl) (fun _ _ _ h => h) HF.out rfl ?_ rfl rfl ?_ ?_
                rotate_left
                · intro w' hF; clear hF; go_simp; try rfl
                rotate_left
                · simp only [Act.put]; exact rfl
                refine Calm.one (i := 9) (l' := #[true, true, true, true, true, true, true, true, true, true]) (by kernel_rfl) rfl rfl rfl fun K hK => ?_
                have NZ := hide (NN.out.step HF.out)
                have ck := NZ.out.ru.cell ul
                have fk := NZ.out.ru.free v
                go_simp
                refine hK _ _ (fun h => absurd h (by decide)) ?_
                clear hK K
                refine Calm.done (by kernel_rfl) ?_
                try simp only [List.setIfInBounds_toArray, List.set_cons_succ, List.set_cons_zero]
                have N5 := hide (NZ.out.setU v (max (ot l2 v) kx))
                have KO5 := hide ((KO3.out.trans (ko_below HF.out)).trans (KeepsOthers.setCell wzd ⟨gU, v, none⟩ (.int .i64 (max (ot l2 v) kx))))
                have KP5 := hide ((KP3.out.trans (keeps_below HF.out HZ3.out)).trans (keeps_set (lo := lo) (hi := w8.heap.size) (o := v) wzd (.int .i64 (max (ot l2 v) kx)) L1.out.2.2.1))
                have HZ5 := hide (Nat.le_trans (Nat.le_trans HZ3.out HF.out.size) (KeepsOthers.setCell wzd ⟨gU, v, none⟩ (.int .i64 (max (ot l2 v) kx))).size)
                have VA5 := hide ((VA.out.step HF.out).other (o := v) GA.out (.int .i64 (max (ot l2 v) kx)))
                clear ck fk NZ HF NN KO3 KP3 HZ3 VA
                generalize wzd.setCell ⟨gU, v, none⟩ (.int .i64 (max (ot l2 v) kx)) = wy at *
                gi_wp2
                have EW : Value.int .i64 ((a : Int) + 1) = .int .i64 ((a + 1 : Nat) : Int) := congrArg _ (by omega)
                rw [EW]
                refine ⟨⟨a + 1, l2.set v (max (ot l2 v) kx), by omega, rfl, N5.out, KO5.out, KP5.out, HZ5.out, VA5.out, fun r hr => ?_⟩, by simp [intOf]; omega⟩
                have h2 := TK.out r
                have h3 := QA.out r hr
                rw [ot_setI]
                by_cases e : v = r
                · subst e
                  rw [if_pos ⟨rfl, ul⟩, if_pos (by simpa using h2), h3]
                  split <;> omega
                · have e' : ¬ (v : Int) = r := by omega
                  have h4 : ((r : Int) ∈ (asksL xi).take (a + 1)) ↔ ((r : Int) ∈ (asksL xi).take a) := by simpa [e'] using h2
                  rw [if_neg (fun q => e q.1), h3]
                  simp only [h4]
              · have e : a = (asksL xi).length := by omega
                subst e
                rw [List.take_length] at QA
                gi_wp2
                refine ⟨KO3.out.from _, KP3.out, lf, ls.set kx u, l2, NN.out, HZ3.out, E0.out, fun r hr => ?_, fun k hk => ?_⟩
                · rw [WS.out]
                  show ot l2 r = ustep s.U kx xi r
                  have eB : ot (lu.set t (-1)) r = if (r : Int) = (t : Int) then -1 else s.U r := by
                    rw [ot_setI]
                    by_cases e : t = r
                    · subst e; rw [if_pos ⟨rfl, tl⟩, if_pos rfl]
                    · rw [if_neg (fun q => e q.1), if_neg (by omega)]; exact E1.out r hr
                  rw [WU.out, QA.out r hr, eB]
                · rw [WS.out]
                  show ot (ls.set kx u) k = if k = kx then s.U (t : Int) else s.S k
                  rw [ot_setI]
                  by_cases e : k = kx
                  · subst e; rw [if_pos ⟨rfl, kl⟩, if_pos rfl, ← EU2.out]
                  · rw [if_neg (fun q => e q.1.symm), if_neg e, E2.out k hk]
        case done =>
          rintro D xs W hD hxs ⟨lf, ls, lu, hN, hz, e0, e1, e2⟩ hd
          obtain ⟨ua, us⟩ := urun_all p
          rw [hxs] at e1 e2
          have E1 : Hid (∀ r : Nat, r < m → ot lu r = uAt p 0 r) := hide (fun r hr => by rw [e1 r hr, ua])
          have ES : ls = setL p := ot_ext (by rw [hN.hs]; simp [setL]) (fun k hk => by rw [hN.hs] at hk; rw [e2 k hk, us k hk])
          subst ES
          subst e0
          have HD := hide hD
          have NN := hide hN
          have HDD := hide hd
          have DW : Hid (w.heap.size ≤ D) := hide (by have := WR.out; have := HW8.out; omega)
          have DN : Hid (∀ k, k < w8.heap.size → D ≠ k) := hide (fun k hk => by omega)
          clear hN hz e1 e2 hd ua us hxs
          simp only [Exit.inBlock, Exit.then]
          refine (by assumption : ∀ a w, Code.wp Try.prog _ _ a w → _) _ _ ?_
          try simp only [List.setIfInBounds_toArray, List.set_cons_succ, List.set_cons_zero]
          have F0 : Hid (List.replicate (ni + 1) (-1) = fstL p 0) := hide (by show _ = List.replicate (p.ins.toNat + 1) (-1); rw [HN.out]; rfl)
          rw [F0.out] at NN
          have cu := NN.out.bu.cell
          go_wp2
          clear cu
          go_loopw [11, 12, 13, 84] (fun _ _ _ av wr => ∃ a : Nat, a ≤ m ∧ av = .int .i64 a ∧ LD w wr B R (.int .i64 p.ins) (.int .i64 p.regs) (.slice ca p.code.length cc) (.slice oa p.outs.length oc) gL Bu gF gS gU (ni + 1) p.code.length m (fstL p a) (setL p) lu ∧ wr.heap[D]? = some (.deferred (some []))) (fun _ _ _ av _ => m - (intOf av).toNat)
          case atStart => exact ⟨0, Nat.zero_le _, rfl, NN.out, HDD.out⟩
          case round =>
            clear NN HDD F0
            obtain ⟨a, ha, rfl, hN, hd⟩ := hrel
            have NN := hide hN
            have HDD := hide hd
            clear hN hd
            obtain ⟨wz, hwz⟩ : ∃ wz, wz = wr := ⟨_, rfl⟩
            subst hwz
            by_cases al : a < m
            · have ul : a < lu.length := by rw [NN.out.hu]; exact al
              have ct := NN.out.ru.cell ul
              rw [E1.out a al] at ct
              have c0 := NN.out.px.cell0
              rw [HN.out] at c0
              go_upto_region 23 with fail
              obtain ⟨t, ht⟩ : ∃ t : Nat, t = min a ni := ⟨_, rfl⟩
              have hmin : min (a : Int) (ni : Int) = (t : Int) := by omega
              rw [hmin]
              have tl : t < (fstL p a).length := by rw [NN.out.hf]; omega
              have FS : Hid (fstL p (a + 1) = (fstL p a).set t (max (ot (fstL p a) t) (uAt p 0 a))) := hide (by show (fstL p a).set _ _ = _; rw [HN.out, ht]; rfl)
              have cb := NN.out.bl.cell0
              have cf := NN.out.rf.cell tl
              have ff := NN.out.rf.free t
              have tl2 : t < ni + 1 := by omega
              clear hmin ht ct c0
              go_region
              have N5 := hide (NN.out.setF t (max (ot (fstL p a) t) (uAt p 0 a))).drew
              rw [← FS.out] at N5
              have HD5 : Hid ((wz.setCell ⟨gF, t, none⟩ (.int .i64 (max (ot (fstL p a) t) (uAt p 0 a)))).drew.heap[D]? = some (.deferred (some []))) := hide ((Below.heap_setCell wz ⟨gF, t, none⟩ _ D (DN.out gF (by have h1 := L1.out.1; have h2 := HW8.out; omega))).trans HDD.out)
              clear cb cf ff NN HDD
              generalize (wz.setCell ⟨gF, t, none⟩ (.int .i64 (max (ot (fstL p a) t) (uAt p 0 a)))).drew = wy at *
              go_wp2
              go_roundw
              case rel => exact ⟨a + 1, by omega, by go_num, N5.out, HD5.out⟩
              case measure => simp [intOf]; omega
            · have e : a = m := by omega
              subst e
              have cb0 := NN.out.bl.cell0
              have cb1 := NN.out.bl.cell1
              have cr0 := NN.out.rx.cell0
              have cr1 := NN.out.rx.cell1
              have fr0 := NN.out.rx.free 0
              have fr1 := NN.out.rx.free 1
              go_wp2
              refine one_left (B := w.heap.size) (fun V => Box2 V R 67 (.slice (some ⟨gF, 0, none⟩) (ni + 1) (ni + 1)) (.slice (some ⟨gS, 0, none⟩) p.code.length p.code.length) ∧ IArr V gF (fst_ p) ∧ IArr V gS (setL p) ∧ Below w.heap.size w V) (fun X Y row q hg hr => ⟨cellsOwn q.1 hg (fun r e => (hr r e).2), cellsOwn q.2.1 hg (fun r e => (hr r e).2), cellsOwn q.2.2.1 hg (fun r e => (hr r e).2), q.2.2.2.grown hg q.2.2.2.size (fun r e => (hr r e).1)⟩) DW.out ?_ ⟨(NN.out.rx.set0 _).set1 _, ?_, ?_, ?_⟩ (fun V q => ⟨_, res_lives rfl _ _ R _ _ rfl q.1, ⟨gF, gS, by rw [HN.out]; rfl, q.2.1, q.2.2.1, NN.out.ge.2.2.1, NN.out.ge.2.2.2.1, NN.out.ne.1⟩, q.2.2.2⟩)
              · exact (Below.heap_setCell _ ⟨R, 1, none⟩ _ D (DN.out R (by have h1 := L1.out.2.2.2.2.2.2; have h2 := HW8.out; omega))).trans ((Below.heap_setCell _ ⟨R, 0, none⟩ _ D (DN.out R (by have h1 := L1.out.2.2.2.2.2.2; have h2 := HW8.out; omega))).trans HDD.out)
              · have e : fst_ p = fstL p a := by unfold fst_; rw [HM.out]; rfl
                rw [e]
                exact (NN.out.rf.other (Ne.symm NN.out.nc.2.2.2.1) _).other (Ne.symm NN.out.nc.2.2.2.1) _
              · exact (NN.out.rs.other (Ne.symm NN.out.nc.2.2.2.2.1) _).other (Ne.symm NN.out.nc.2.2.2.2.1) _
              · exact (NN.out.below.setCell (p := ⟨R, 0, none⟩) HR.out _).setCell (p := ⟨R, 1, none⟩) HR.out _
end Go.Proofs.Ytheakienigmkhaa
