/- swagelaw08.ProgBack answers true at all programs, wherever the instructions are left, and turns nothing that was there. -/
import Derived.Test.YtlbjkfnknkpkiaaDoorPgBack1
import Derived.Test.YtlbjkfnknkpkiaaDoorPgRSame
import Derived.Test.YtlbjkfnknkpkiaaDoorPgRight
import Derived.Test.YtlbjkfnknkpkiaaDoorPgLive
import Derived.Test.YtlbjkfnknkpkiaaDoorCalmV
import Derived.RegionTactic
import Derived.Deep.Cut
namespace Go.Proofs.YtlbjkfnknkpkiaaDoor
open Go.RowKit Go.Shelf
attribute [local go_sem] Oper.semAt_some

theorem boxed_step {W W' : World} {B : Nat} {t : TypeId} {v : Value} (h : Boxed W B t v) (hb : Below W.heap.size W W') : Boxed W' B t v := (hb.block B h.lt).trans h
/-- all blocks but one lie as they lay -/
structure SameBut (g : Nat) (W W' : World) : Prop where
  base : Below 0 W W'
  block : ∀ k, k < W.heap.size → k ≠ g → W'.heap[k]? = W.heap[k]?
theorem SameBut.refl (g : Nat) (W : World) : SameBut g W W := ⟨Below.refl _ _, fun _ _ _ => rfl⟩
theorem SameBut.trans {g : Nat} {A B C : World} (h : SameBut g A B) (k : SameBut g B C) : SameBut g A C :=
  ⟨h.base.trans k.base, fun i h1 h2 => (k.block i (Nat.lt_of_lt_of_le h1 h.base.size) h2).trans (h.block i h1 h2)⟩
theorem SameBut.set {g : Nat} {A B : World} (h : SameBut g A B) (v : Value) : SameBut g A (B.setCell ⟨g, 0, none⟩ v) :=
  ⟨h.base.setCell (Nat.zero_le _) v, fun i h1 h2 => by rw [Below.heap_setCell _ _ _ _ h2]; exact h.block i h1 h2⟩
theorem SameBut.boxed {g : Nat} {A B : World} (h : SameBut g A B) {b : Nat} {t : TypeId} {v : Value} (k : Boxed A b t v) (hne : b ≠ g) : Boxed B b t v := (h.block b k.lt hne).trans k
theorem SameBut.below {g T : Nat} {w A B : World} (h : SameBut g A B) (hb : Below T w A) (hg : T ≤ g) (hT : T ≤ A.heap.size) : Below T w B :=
  ⟨h.base.os.trans hb.os, h.base.tape.trans hb.tape, h.base.output.trans hb.output, Nat.le_trans hb.size h.base.size, fun i hi => (h.block i (by omega) (by omega)).trans (hb.block i hi)⟩
theorem SameBut.keeps {g lo hi : Nat} {A B : World} (h : SameBut g A B) (hg : hi ≤ g) (hT : hi ≤ A.heap.size) : Keeps lo hi A B := fun k _ h2 => h.block k (by omega) (by omega)
theorem sameBut_from {β : Type} (g : Nat) (A : World) : OwnFrom A.heap.size (fun (_ : β) W => SameBut g A W) := fun _ _ _ _ hs hg hr =>
  ⟨hs.base.grown hg (Nat.zero_le _) (fun _ _ => Nat.zero_le _), fun i h1 h2 => (hg.block i (Nat.lt_of_lt_of_le h1 hs.base.size) (fun e => by have := (hr i e.symm).1; omega)).trans (hs.block i h1 h2)⟩

/-- as bodyPostM, and no panic -/
def postN (n : Nat) (fn : Func) (R : Ending → World → Prop) : Exit → Act → World → Prop
  | .normal, a, w | .ret, a, w => LeavesInM Fence.wide n Tryd.prog fn a.tmps R a.defers .returning w
  | _, _, _ => False
theorem postN_sub {n : Nat} {fn : Func} {R : Ending → World → Prop} (e : Exit) (a : Act) (w : World) (h : postN n fn R e a w) : bodyPostM Fence.wide n Tryd.prog fn R e a w := by
  cases e <;> first | exact h | exact h.elim
set_option maxRecDepth 100000 in
theorem callsIn_marksN {n : Nat} {f : FuncId} {fn : Func} {c : Code} {args : Array Value} {w : World} {R : Ending → World → Prop} (hf : Tryd.prog.funcs[f]? = some fn) (hb : fn.body = some c)
    (h : c.wp Tryd.prog (postN n fn R) { tmps := args ++ Array.replicate (fn.ntmps - args.size) undef, defers := [] } w) : Calls Tryd.prog f args w R :=
  (callsIn_wide (n := n)).1 (callsIn_of_wp_marks hf hb trivial (wpIn_wide.2 (wp_mono h postN_sub)) rfl)
theorem someI_from {β : Type} (B g : Nat) : OwnFrom B (fun (_ : β) W => ∃ n : Int, Boxed W g 3 (.int .i64 n)) := fun _ W W' row ⟨n, h⟩ hg hr => ⟨n, (Go.Own.from (boxed_own g 3 (fun _ : Unit => .int .i64 n)) B) () W W' row h hg hr⟩
theorem res_bool {fn : Func} {p : Tmp} (h : fn.results = #[.cell p 4]) (tmps : Array Value) (w : World) (g : Nat) (b : Bool) (hp : tmps.getD p undef = .pointer (some ⟨g, 0, none⟩)) (hg : Boxed w g 4 (.bool b)) :
    (results fn tmps).run Tryd.prog w = .ok (.bool b) w := by
  have hp' : tmps[p]?.getD undef = .pointer (some ⟨g, 0, none⟩) := by simpa using hp
  have hc := hg.cell
  simp [results, h, hp', asAddr]
  go_simp
theorem two_marks {n : Nat} {fn : Func} {p : Tmp} (h : fn.results = #[.cell p 4]) (tmps : Array Value) (We w : World) (g D1 D2 : Nat) (b : Bool) (hp : tmps.getD p undef = .pointer (some ⟨g, 0, none⟩)) (h1 : We.heap[D1]? = some (.deferred (some []))) (h2 : We.heap[D2]? = some (.deferred (some [])))
    (hne : D1 ≠ D2) (hR : Boxed We g 4 (.bool b)) (hb : Below w.heap.size w We) (hw1 : w.heap.size ≤ D1) (hw2 : w.heap.size ≤ D2) :
    LeavesInM Fence.wide n Tryd.prog fn tmps (fun e w' => e = .returned (.bool b) ∧ Below w.heap.size w w') [{ target := .collected D2, args := #[] }, { target := .collected D1, args := #[] }] .returning We := by
  have r1 : g ≠ D1 := by rintro rfl; rw [show We.heap[g]? = _ from hR] at h1; cases h1
  have r2 : g ≠ D2 := by rintro rfl; rw [show We.heap[g]? = _ from hR] at h2; cases h2
  have k1 := (World.putObj_heap_other (w := We) (o := .deferred none) hne).trans h1
  refine ⟨by simp, .inl ⟨_, _, rfl, run_takeDeferred h2, ⟨by simp, .inl ⟨_, _, rfl, run_takeDeferred k1, ?_⟩⟩⟩⟩
  refine ⟨_, res_bool h _ _ g b hp ((World.putObj_heap_other r1).trans ((World.putObj_heap_other r2).trans hR)), rfl, ?_⟩
  have b2 := belowK_b (w := w) (Nat.le_refl _) We D2 _ (.deferred none) hw2 h2 rfl rfl
  exact (hb.trans b2).trans (belowK_b (w := w) (Nat.le_refl _) _ D1 _ (.deferred none) hw1 k1 rfl rfl)

theorem eql_func (w : World) (lb : Array Value) : (binOp .eql 52 (.func (.func 40) #[] lb) .nilFunc).run Tryd.prog w = .ok (.bool false) w := by
  have h : ∀ d, (Op.equalIn (d + 1) 52 (.func (.func 40) #[] lb) .nilFunc).run Tryd.prog w = .ok false w := fun d => by simp [Op.equalIn, run_underlying Tryd.underlying52]
  simp only [binOp]
  simp [Op.equal, Op.maxDepth, h 9999]
theorem ownFrom_imp {β : Type} {B : Nat} {q : Prop} {I : β → World → Prop} (h : OwnFrom B I) : OwnFrom B (fun s W => q → I s W) := fun s W W' row hs hg hr hq => h s W W' row (hs hq) hg hr
theorem ax_from (B : Nat) (a' : Act) (f : Nat → Act) (x : Ins) : OwnFrom B (fun (_ : Unit) W => ∃ gx, a' = f gx ∧ Box5 W gx 36 x) := fun _ W W' row ⟨gx, e, h⟩ hg hr =>
  ⟨gx, e, (hg.block gx h.lt (fun e1 => by obtain ⟨_, o, ho, hc⟩ := hr gx e1.symm; rw [show W.heap[gx]? = _ from h] at ho; cases ho; cases hc)).trans h⟩
theorem ko_drew (W : World) : KeepsOthers W W.drew := ⟨Nat.le_refl _, fun _ _ h _ => h⟩
theorem keeps_drew {lo hi : Nat} (W : World) : Keeps lo hi W W.drew := fun _ _ _ => rfl
theorem sb_drew {g : Nat} {A B : World} (h : SameBut g A B) : SameBut g A B.drew := ⟨h.base.drew, h.block⟩
theorem bx_drew {W : World} {B : Nat} {t : TypeId} {v : Value} (h : Boxed W B t v) : Boxed W.drew B t v := h
def fr (a : Act) (ps : Array Tmp) (x : Nx) (gx : Nat) : Act := { tmps := (((ps.zip (encN x)).foldl (fun t (p, v) => t.setIfInBounds p v) a.tmps).setIfInBounds 10 (.int .i64 (x.1 : Nat))).setIfInBounds 11 (.pointer (some ⟨gx, 0, none⟩)), defers := [] }
theorem range_box {g : Operand} {ps : Array Tmp} {assign body : Code} {Q : Exit → Act → World → Prop} {a : Act} {w : World} {n : Nat} (h1 : 1 ≤ n) {gf : Nat} {lb : Array Value} (hg : a.eval g = .func (.func gf) #[] lb) (eg : ∀ args w, (callFunc gf args).run Tryd.prog w = .ok (.enter gf args) w)
    {Kp : World → World → Prop} {S Sp : List Nx → Prop} {N : Nat} {w0 : World} (hseq : SeqStopsK Fence.wide (n - 1) Tryd.prog gf lb encN Kp S Sp N w0)
    (hKt : ∀ {A B C : World}, Kp A B → Kp B C → Kp A C) (hKb : ∀ (W : World) (l : Nat) (o o' : Obj), w.heap.size ≤ l → W.heap[l]? = some o → o.isCells = false → o.isWalk = false → Kp W (W.putObj l o')) (hb0 : Below w0.heap.size w0 w) (hps : ∀ x, (encN x).size = ps.size)
    (I : List Nx → World → Prop) (Ix : Code → List Nx → World → Prop) (hI : OwnFrom w.heap.size I) (hIx : ∀ c, OwnFrom w.heap.size (Ix c)) (h0 : I [] w)
    (hassign : ∀ (l : Nat) (pre : List Nx) (x : Nx) (W : World) (K : Act → World → Prop), I pre W → (∀ a' W', KeepsFrom w.heap.size W W' → Kp W W' → I pre W' → (∃ gx, a' = fr a ps x gx ∧ Box5 W' gx 36 x.2) → K a' W') →
      assign.wpIn (Fence.wide.inRound l) (n - 1 - 1) Tryd.prog (Exit.then K (fun _ _ _ => False)) { tmps := (ps.zip (encN x)).foldl (fun t (p, v) => t.setIfInBounds p v) a.tmps, defers := [] } W)
    (hbody : ∀ (l : Nat) (pre : List Nx) (x : Nx) (gx : Nat) (W : World), I pre W → Box5 W gx 36 x.2 → pre.length < N → body.wpIn (Fence.wide.inRound l) (n - 1 - 1) Tryd.prog (ownPostG w.heap.size Kp I Ix (pre ++ [x]) W) (fr a ps x gx) W)
    (hdone : ∀ (D : Nat) (xs : List Nx) (W : World), w.heap.size ≤ D → S xs → I xs W → W.heap[D]? = some (.deferred (some [])) → Q .normal { a with defers := { target := .collected D, args := #[] } :: a.defers } W)
    (hstop : ∀ (D : Nat) (c : Code) (pre : List Nx) (W : World), w.heap.size ≤ D → Sp pre → Ix c pre W → W.heap[D]? = some (.deferred (some [])) → c.wpIn Fence.wide n Tryd.prog Q { a with defers := { target := .collected D, args := #[] } :: a.defers } W) :
    (Code.rangeFunc g ps assign body).wpIn Fence.wide n Tryd.prog Q a w :=
  wpIn_rangeFunc_ownH rfl h1 hg trivial eg hseq (fun h k => hKt h k) hKb hb0 hps I Ix hI hIx h0 (fun x a' W => ∃ gx, a' = fr a ps x gx ∧ Box5 W gx 36 x.2) (fun x a' => ax_from _ a' _ _) hassign
    (fun l pre x a' W _ _ hi ⟨gx, e, hb⟩ hlt => by subst e; exact hbody l pre x gx W hi hb hlt) hdone hstop
theorem range_any (e : Prop) {stop : Int} {cs : List Ins} {I : Nat} {g : Operand} {ps : Array Tmp} {assign body : Code} {K : Act → World → Prop} {X : Exit → Act → World → Prop} {a : Act} {w : World} {n : Nat} (h1 : 1 ≤ n) {gf : Nat} {lb : Array Value} (hg : a.eval g = .func (.func gf) #[] lb) (eg : ∀ args w, (callFunc gf args).run Tryd.prog w = .ok (.enter gf args) w)
    {Kp : World → World → Prop} {w0 : World} (hseq : SeqStopsK Fence.wide (n - 1) Tryd.prog gf lb encN Kp (fun ys => ys = tb cs cs.length) (fun pre => pre <+: tb cs cs.length) (tb cs cs.length).length w0)
    (hKt : ∀ {A B C : World}, Kp A B → Kp B C → Kp A C) (hKb : ∀ (W : World) (l : Nat) (o o' : Obj), w.heap.size ≤ l → W.heap[l]? = some o → o.isCells = false → o.isWalk = false → Kp W (W.putObj l o')) (hb0 : Below w0.heap.size w0 w) (hps : ∀ x, (encN x).size = ps.size)
    (h0 : Boxed w I 3 (.int .i64 0))
    (hassign : ∀ (l : Nat) (pre : List Nx) (x : Nx) (W : World) (K : Act → World → Prop), (Boxed W I 3 (.int .i64 (pre.length : Nat)) ∧ SameBut I w W) → (∀ a' W', KeepsFrom w.heap.size W W' → Kp W W' → (Boxed W' I 3 (.int .i64 (pre.length : Nat)) ∧ SameBut I w W') → (∃ gx, a' = fr a ps x gx ∧ Box5 W' gx 36 x.2) → K a' W') →
      assign.wpIn (Fence.wide.inRound l) (n - 1 - 1) Tryd.prog (Exit.then K (fun _ _ _ => False)) { tmps := (ps.zip (encN x)).foldl (fun t (p, v) => t.setIfInBounds p v) a.tmps, defers := [] } W)
    (hbody : ∀ (l : Nat) (pre : List Nx) (x : Nx) (gx : Nat) (W : World), (Boxed W I 3 (.int .i64 (pre.length : Nat)) ∧ SameBut I w W) → Box5 W gx 36 x.2 → pre.length < (tb cs cs.length).length → body.wpIn (Fence.wide.inRound l) (n - 1 - 1) Tryd.prog
      (ownPostG w.heap.size Kp (fun pre W => Boxed W I 3 (.int .i64 (pre.length : Nat)) ∧ SameBut I w W)
        (fun c pre W => (c = .ret → ∃ pre0 x, pre = pre0 ++ [x] ∧ pre0.length < cs.length ∧ x ≠ (cs.length - 1 - pre0.length, cd cs (cs.length - 1 - pre0.length))) ∧ (c ≠ .ret → e ∧ c = .exit 2 ∧ Boxed W I 3 (.int .i64 stop) ∧ SameBut I w W)) (pre ++ [x]) W) (fr a ps x gx) W)
    (hnext : ∀ (D : Nat) (W : World) (v : Int), w.heap.size ≤ D → (v = (cs.length : Nat) ∨ (e ∧ v = stop)) → Boxed W I 3 (.int .i64 v) → SameBut I w W → W.heap[D]? = some (.deferred (some [])) → K { a with defers := { target := .collected D, args := #[] } :: a.defers } W) :
    (Code.rangeFunc g ps assign body).wpIn Fence.wide n Tryd.prog (Exit.inBlock 2 (Exit.then K X)) a w := by
  refine range_box h1 hg eg hseq hKt hKb hb0 hps (fun pre W => Boxed W I 3 (.int .i64 (pre.length : Nat)) ∧ SameBut I w W)
    (fun c pre W => (c = .ret → ∃ pre0 x, pre = pre0 ++ [x] ∧ pre0.length < cs.length ∧ x ≠ (cs.length - 1 - pre0.length, cd cs (cs.length - 1 - pre0.length))) ∧ (c ≠ .ret → e ∧ c = .exit 2 ∧ Boxed W I 3 (.int .i64 stop) ∧ SameBut I w W))
    (OwnFrom.and (Go.Own.from (boxed_own _ _ (fun pre : List Nx => .int .i64 (pre.length : Nat))) _) (sameBut_from _ _))
    (fun c => OwnFrom.and (ownFrom_imp (ownFrom_pure _ _)) (ownFrom_imp (OwnFrom.and (ownFrom_pure _ _) (OwnFrom.and (ownFrom_pure _ _) (OwnFrom.and (Go.Own.from (boxed_own _ _ (fun _ => .int .i64 stop)) _) (sameBut_from _ _))))))
    ⟨h0, SameBut.refl _ _⟩ hassign hbody ?_ ?_
  · rintro D xs W hD rfl ⟨hi, hS⟩ hK
    rw [tb_length] at hi
    exact hnext D W _ hD (.inl rfl) hi hS hK
  · rintro D c pre W hD hp ⟨q1, q2⟩ hK
    by_cases hc : c = .ret
    · exfalso
      obtain ⟨pre0, x, rfl, hl, hx⟩ := q1 hc
      apply hx
      obtain ⟨t, ht⟩ := hp
      have := congrArg (fun l => l[pre0.length]?) ht
      simp [tb, hl] at this
      exact this
    · obtain ⟨he, rfl, hi, hS⟩ := q2 hc
      refine wpIn_exit ?_
      have := hnext D W _ hD (.inr ⟨he, rfl⟩) hi hS hK
      simpa [Exit.inBlock, Exit.then] using this
theorem keeps_alloc {lo hi : Nat} (W : World) (o : Obj) (h : hi ≤ W.heap.size) : Keeps lo hi W (W.alloc o) := fun k _ h2 => Below.heap_alloc _ _ _ (by omega)
theorem SameBut.alloc {g : Nat} {A B : World} (h : SameBut g A B) (o : Obj) : SameBut g A (B.alloc o) :=
  ⟨h.base.alloc (Nat.zero_le _) o, fun i h1 h2 => by rw [Below.heap_alloc _ _ _ (Nat.lt_of_lt_of_le h1 h.base.size)]; exact h.block i h1 h2⟩
theorem SameBut.box4 {g : Nat} {A B : World} (h : SameBut g A B) {b : Nat} {t : TypeId} {x y z u : Value} (k : Box4 A b t x y z u) (hne : b ≠ g) : Box4 B b t x y z u := (h.block b k.lt hne).trans k
theorem SameBut.ins {g : Nat} {A B : World} (h : SameBut g A B) {b o : Nat} {x : Ins} (k : InsC A b o x) (hne : b ≠ g) : InsC B b o x := by
  have lt := World.block_lt_of_cell? A _ k.cell0
  have e : ∀ j, B.cell? ⟨b, j, none⟩ = A.cell? ⟨b, j, none⟩ := fun j => World.cell?_of_block (h.block b lt hne)
  exact ⟨(e _).trans k.cell0, (e _).trans k.cell1, (e _).trans k.cell2, (e _).trans k.cell3, (e _).trans k.cell4⟩

set_option maxRecDepth 100000 in
set_option maxHeartbeats 8000000 in
theorem pback_walk (u : Value) (p : Pg) (stop : Int) (w : World) (hu : PgAt w u p) :
    Calls Tryd.prog 7 #[u, .int .i64 stop] w fun e w' => e = .returned (.bool true) ∧ Below w.heap.size w w' := by
  have HP := hide hu
  obtain ⟨ca, cc, oa, oc, rfl, hc0, _⟩ := hu
  have KC0 := hide hc0
  clear hc0
  refine callsIn_marksN (n := 3) Tryd.func7 rfl ?_
  simp only [Tryd.ntmps7, List.size_toArray, List.length_cons, List.length_nil, Nat.reduceAdd, Nat.reduceSub, Array.replicate_succ, Array.replicate_zero, List.push_toArray, List.append_toArray, List.nil_append, List.cons_append]
  go_upto_region 1 with fail
  have b1 := below_alloc w (.cells #[.int .i64 p.ins, .int .i64 p.regs, .slice ca p.code.length cc, .slice oa p.outs.length oc] 25)
  have b2 := below_alloc (w.alloc (.cells #[.int .i64 p.ins, .int .i64 p.regs, .slice ca p.code.length cc, .slice oa p.outs.length oc] 25)) (.cells #[.int .i64 stop] 3)
  have b3 := below_alloc ((w.alloc (.cells #[.int .i64 p.ins, .int .i64 p.regs, .slice ca p.code.length cc, .slice oa p.outs.length oc] 25)).alloc (.cells #[.int .i64 stop] 3)) (.cells #[.bool false] 4)
  have PX := hide (((Box4.new w 25 (.int .i64 p.ins) (.int .i64 p.regs) (.slice ca p.code.length cc) (.slice oa p.outs.length oc)).step b2).step b3)
  have BE := hide (boxed_step (Boxed.new (w.alloc (.cells #[.int .i64 p.ins, .int .i64 p.regs, .slice ca p.code.length cc, .slice oa p.outs.length oc] 25)) 3 (.int .i64 stop)) b3)
  have BR := hide (Boxed.new ((w.alloc (.cells #[.int .i64 p.ins, .int .i64 p.regs, .slice ca p.code.length cc, .slice oa p.outs.length oc] 25)).alloc (.cells #[.int .i64 stop] 3)) 4 (.bool false))
  simp only [World.size_alloc] at BE BR
  replace HP := hide (((HP.out.below b1).below b2).below b3)
  have HB := hide (b1.trans ((b2.trans (b3.mono b2.size)).mono b1.size))
  clear b1 b2 b3
  generalize ((w.alloc (.cells #[.int .i64 p.ins, .int .i64 p.regs, .slice ca p.code.length cc, .slice oa p.outs.length oc] 25)).alloc (.cells #[.int .i64 stop] 3)).alloc (.cells #[.bool false] 4) = w1 at *
  obtain ⟨B, hB⟩ : ∃ B, B = w.heap.size := ⟨_, rfl⟩
  have HZ := hide hB
  rw [← hB] at PX BE BR ⊢
  clear hB
  try simp only [Nat.add_assoc, Nat.reduceAdd] at BE BR ⊢
  obtain ⟨E, hE⟩ : ∃ E, E = B + 1 := ⟨_, rfl⟩
  obtain ⟨R, hR⟩ : ∃ R, R = B + 2 := ⟨_, rfl⟩
  have HE := hide hE
  have HR := hide hR
  rw [← hE] at BE ⊢
  rw [← hR] at BR ⊢
  clear hE hR
  go_wp2_with fail
  refine (live_any _).mono ?_
  rintro e w2 ⟨rfl, hb⟩
  replace HP := hide (HP.out.below hb)
  replace PX := hide (PX.out.step hb)
  replace BE := hide (boxed_step BE.out hb)
  replace BR := hide (boxed_step BR.out hb)
  replace HB := hide (HB.out.trans (hb.mono HB.out.size))
  clear hb
  have c0 := PX.out.cell0
  have c1 := PX.out.cell1
  have c2 := PX.out.cell2
  have c3 := PX.out.cell3
  go_wp2_with fail
  refine (long_any _ p _ HP.out).mono ?_
  rintro e w3 ⟨rfl, hb⟩
  clear c0 c1 c2 c3
  replace HP := hide (HP.out.below hb)
  replace PX := hide (PX.out.step hb)
  replace BE := hide (boxed_step BE.out hb)
  replace BR := hide (boxed_step BR.out hb)
  replace HB := hide (HB.out.trans (hb.mono HB.out.size))
  clear hb
  cases hl : longB p with
  | true =>
    have hc := BR.out.cell
    have hf := BR.out.frozen
    go_wp2
    exact ⟨_, res_bool rfl _ _ R true rfl (BR.out.set _), rfl, HB.out.setCell (p := ⟨R, 0, none⟩) (by have := HZ.out; have := HR.out; show w.heap.size ≤ R; omega) _⟩
  | false =>
  have L1 := hide (long_no hl)
  clear hl
  have c0 := PX.out.cell0
  have c1 := PX.out.cell1
  have c2 := PX.out.cell2
  have c3 := PX.out.cell3
  obtain ⟨cs, hcs⟩ : ∃ cs, cs = if rightB p then p.code else [] := ⟨_, rfl⟩
  have CS := hide hcs
  clear hcs
  go_wp2_with fail
  refine (back_any _ p _ HP.out L1.out.1 cs CS.out).mono ?_
  rintro e w4 ⟨⟨bx, vb, rfl, hx1, hx2, hxc, hO⟩, hb⟩
  have X1 := hide (Nat.le_trans HB.out.size hx1)
  have lo0 := hide hx1
  clear c0 c1 c2 c3
  replace HP := hide (HP.out.below hb)
  replace PX := hide (PX.out.step hb)
  replace BE := hide (boxed_step BE.out hb)
  replace BR := hide (boxed_step BR.out hb)
  replace HB := hide (HB.out.trans (hb.mono HB.out.size))
  clear hb
  have X2 := hide hx2
  have CX := hide hxc
  have OW := hide hO
  clear hx1 hx2 hxc hO
  generalize hlo : w3.heap.size = lo at *
  clear hlo
  have c0 := PX.out.cell0
  have c1 := PX.out.cell1
  have c2 := PX.out.cell2
  have c3 := PX.out.cell3
  go_upto_region 7 with fail
  have PXG := hide (Box4.lt PX.out)
  have BEG := hide BE.out.lt
  have BRG := hide BR.out.lt
  have hb := below_alloc w4 (.cells #[.int .i64 (p.code.length : Int)] 3)
  have BN := hide (Boxed.new w4 3 (.int .i64 (p.code.length : Int)))
  have HW := hide hb
  clear c0 c1 c2 c3
  replace HP := hide (HP.out.below hb)
  replace PX := hide (PX.out.step hb)
  replace BE := hide (boxed_step BE.out hb)
  replace BR := hide (boxed_step BR.out hb)
  replace HB := hide (HB.out.trans (hb.mono HB.out.size))
  clear hb
  generalize w4.alloc (.cells #[.int .i64 (p.code.length : Int)] 3) = w5 at *
  obtain ⟨G, hG⟩ : ∃ G, G = w4.heap.size := ⟨_, rfl⟩
  have HG := hide hG
  rw [← hG] at BN ⊢
  clear hG
  have c0 := PX.out.cell0
  have c1 := PX.out.cell1
  have c2 := PX.out.cell2
  have c3 := PX.out.cell3
  go_wp2_with fail
  refine (rright_any _ p _ HP.out).mono ?_
  rintro e w6 ⟨rfl, hb⟩
  replace HW := hide (HW.out.trans (hb.mono HW.out.size))
  replace BN := hide (boxed_step BN.out hb)
  clear c0 c1 c2 c3
  replace HP := hide (HP.out.below hb)
  replace PX := hide (PX.out.step hb)
  replace BE := hide (boxed_step BE.out hb)
  replace BR := hide (boxed_step BR.out hb)
  replace HB := hide (HB.out.trans (hb.mono HB.out.size))
  clear hb
  cases hr : rightB p with
  | true =>
    have CE : Hid (cs = p.code) := hide (by rw [CS.out, hr]; rfl)
    have CL : Hid (cs.length ≤ 400) := hide (by rw [CE.out]; exact L1.out.1)
    replace BN : Hid (Boxed _ G 3 (.int .i64 (cs.length : Nat))) := hide (by rw [CE.out]; exact BN.out)
    clear hr
    have hq := eql_func
    go_wp2_with fail
    refine (live_any _).mono ?_
    rintro e w7 ⟨rfl, hb⟩
    replace HW := hide (HW.out.trans (hb.mono HW.out.size))
    replace BN := hide (boxed_step BN.out hb)
    replace PX := hide (PX.out.step hb)
    replace BE := hide (boxed_step BE.out hb)
    replace BR := hide (boxed_step BR.out hb)
    replace HB := hide (HB.out.trans (hb.mono HB.out.size))
    clear hb
    clear hq
    clear HP
    go_upto_region 13 with fail
    refine wp_loop_rounds 3 ?_
    rw [rounds_succ]
    have hb := below_alloc w7 (.cells #[.int .i64 0] 3)
    have BD := hide (Boxed.new w7 3 (.int .i64 0))
    replace HW := hide (HW.out.trans (hb.mono HW.out.size))
    replace BN := hide (boxed_step BN.out hb)
    replace PX := hide (PX.out.step hb)
    replace BE := hide (boxed_step BE.out hb)
    replace BR := hide (boxed_step BR.out hb)
    replace HB := hide (HB.out.trans (hb.mono HB.out.size))
    clear hb
    generalize w7.alloc (.cells #[.int .i64 0] 3) = w8 at *
    obtain ⟨D, hD⟩ : ∃ D, D = w7.heap.size := ⟨_, rfl⟩
    have HD := hide hD
    rw [← hD] at BD ⊢
    clear hD
    have WPX : Hid (w.heap.size ≤ B) := hide (by have := HZ.out; omega)
    have d0 := BD.out.cell
    go_upto_region 16 with fail
    clear d0
    have BN0 := hide BN.out.lt
    have BD0 := hide BD.out.lt
    have BE0 := hide BE.out.lt
    have BR0 := hide BR.out.lt
    have PX0 := hide PX.out.lt
    have HW0 := hide HW.out.size
    have hb := below_alloc w8 (.cells #[.int .i64 0] 3)
    have BI := hide (Boxed.new w8 3 (.int .i64 0))
    replace HW := hide (HW.out.trans (hb.mono HW.out.size))
    replace BN := hide (boxed_step BN.out hb)
    replace BD := hide (boxed_step BD.out hb)
    replace PX := hide (PX.out.step hb)
    replace BE := hide (boxed_step BE.out hb)
    replace BR := hide (boxed_step BR.out hb)
    replace HB := hide (HB.out.trans (hb.mono HB.out.size))
    clear hb
    generalize w8.alloc (.cells #[.int .i64 0] 3) = V01 at *
    obtain ⟨I01, hI⟩ : ∃ I, I = w8.heap.size := ⟨_, rfl⟩
    have HI01 := hide hI
    rw [← hI] at BI ⊢
    clear hI
    have BNI01 : Hid (G < I01) := hide (by have := HI01.out; have := BN0.out; omega)
    have BDI01 : Hid (D < I01) := hide (by have := HI01.out; have := BD0.out; omega)
    have BEI01 : Hid (E < I01) := hide (by have := HI01.out; have := BE0.out; omega)
    have BRI01 : Hid (R < I01) := hide (by have := HI01.out; have := BR0.out; omega)
    have PXI01 : Hid (B < I01) := hide (by have := HI01.out; have := PX0.out; omega)
    have LWI01 : Hid (w4.heap.size ≤ I01) := hide (by have := HI01.out; have := HW0.out; omega)
    have LB := hide (Box4.lt PX.out)
    have LI01 : Hid (I01 < V01.heap.size) := hide BI.out.lt
    go_wp2_with fail
    refine (wpIn_wide (n := 3)).1 ?_
    refine range_any True (stop := stop) (cs := cs) (by omega) (gf := 40) (lb := #[.pointer (some ⟨bx, 0, none⟩)]) rfl (enters_of Tryd.func40 (by kernel_rfl) rfl)
      (back_stops 2 (by omega) bx lo w4.heap.size lo vb cs (by have := CL.out; omega) w4 OW.out (Nat.le_refl _) rfl lo0.out X2.out CX.out) Keeps.trans
      (fun W l o o' hl _ _ _ k _ h2 => by rw [World.putObj_heap_other (by have := HW.out.size; omega)]) HW.out (fun _ => rfl)
      BI.out ?assign01 ?body01 ?nx01
    case assign01 =>
      intro l pre x W K hI hK
      obtain ⟨hi, hS⟩ := hI
      obtain ⟨kx, xi⟩ := x
      unfold encN
      simp only [List.zip_toArray, List.zip_cons_cons, List.zip_nil_right, List.foldl_toArray', List.size_toArray, List.length_cons, List.length_nil, List.foldl_cons, List.foldl_nil, List.setIfInBounds_toArray, List.set_cons_succ, List.set_cons_zero]
      gi_wp2
      have b5 := Box5.new W 36 xi
      have ks := KeepsOthers.alloc W (.cells xi.vals 36)
      have kp := keeps_alloc (lo := lo) (hi := w4.heap.size) W (.cells xi.vals 36) (by have := hS.base.size; have := HW.out.size; omega)
      have hi' := boxed_step hi (below_alloc W (.cells xi.vals 36))
      have hS' := hS.alloc (.cells xi.vals 36)
      unfold Ins.vals at b5 ks kp hi' hS'
      generalize W.alloc (.cells #[.int .i64 xi.op, .int .i64 xi.to, .int .i64 xi.a, .int .i64 xi.b, .int .i64 xi.c] 36) = W' at *
      generalize W.heap.size = gx at *
      exact hK _ _ (ks.from _) kp ⟨hi', hS'⟩ ⟨gx, by simp only [fr, encN, List.zip_toArray, List.zip_cons_cons, List.zip_nil_right, List.foldl_toArray', List.size_toArray, List.length_cons, List.length_nil, List.foldl_cons, List.foldl_nil, List.setIfInBounds_toArray, List.set_cons_succ, List.set_cons_zero], b5⟩
    case body01 =>
      rintro l pre x gx W ⟨hi, hS⟩ hbx hlt
      rw [tb_length] at hlt
      obtain ⟨kx, xi⟩ := x
      unfold fr encN
      dsimp only at hbx
      simp only [List.zip_toArray, List.zip_cons_cons, List.zip_nil_right, List.foldl_toArray', List.size_toArray, List.length_cons, List.length_nil, List.foldl_cons, List.foldl_nil, List.setIfInBounds_toArray, List.set_cons_succ, List.set_cons_zero]
      have hcI := hi.cell
      have hfI := hi.frozen
      have hcN := (hS.boxed BN.out (by have := BNI01.out; omega)).cell
      have hcD := (hS.boxed BD.out (by have := BDI01.out; omega)).cell
      have hcE := (hS.boxed BE.out (by have := BEI01.out; omega)).cell
      have hcR := (hS.boxed BR.out (by have := BRI01.out; omega)).cell
      have hfR := (hS.boxed BR.out (by have := BRI01.out; omega)).frozen
      have hp2 := (hS.box4 PX.out (by have := PXI01.out; omega)).cell2
      have y0 := hbx.cells.cell0
      have y1 := hbx.cells.cell1
      have y2 := hbx.cells.cell2
      have y3 := hbx.cells.cell3
      have y4 := hbx.cells.cell4
      simp only [Nat.zero_add] at y1 y2 y3 y4
      have HBW := hide (hS.below HB.out (by have := PXI01.out; have := WPX.out; omega) (by have := HB.out.size; omega))
      obtain ⟨k, hk⟩ : ∃ k : Nat, k = cs.length - 1 - pre.length := ⟨_, rfl⟩
      have hkl : k < p.code.length := by rw [← CE.out]; omega
      obtain ⟨b, off, hca, k1⟩ := KC0.out.at hkl
      replace k1 := k1.step HBW.out
      rw [hca] at hp2
      obtain ⟨y, hy⟩ : ∃ y, y = cd p.code k := ⟨_, rfl⟩
      rw [← hy] at k1
      have z0 := k1.cell0
      have z1 := k1.cell1
      have z2 := k1.cell2
      have z3 := k1.cell3
      have z4 := k1.cell4
      clear k1 hca hbx
      obtain ⟨m, hm⟩ : ∃ m, m = pre.length := ⟨_, rfl⟩
      rw [← hm] at hcI hk hlt
      obtain ⟨nn, hnn⟩ : ∃ nn, nn = p.code.length := ⟨_, rfl⟩
      rw [CE.out, ← hnn] at hk hlt
      rw [CE.out, ← hnn] at hcN
      rw [← hnn] at hkl hp2
      have nb : nn ≤ 400 := by rw [hnn]; exact L1.out.1
      have HM := hide hm
      have HN := hide hnn
      have HY := hide hy
      have HK := hide hk
      have HS := hide hS
      have HI' := hide hi
      clear hm hnn hy hS hi hk
      have nD : D ≠ I01 := by have := BDI01.out; omega
      have nE : E ≠ I01 := by have := BEI01.out; omega
      have g0 : ¬ (nn : Int) ≤ (m : Int) := by omega
      have g1 : ¬ nn ≤ m := by omega
      have u1 : IntKind.i64.wrap ((nn : Int) - 1) = (nn : Int) - 1 := by rw [IntKind.wrap_i64]; omega
      have u2 : IntKind.i64.wrap ((nn : Int) - 1 - (m : Int)) = (nn : Int) - 1 - (m : Int) := by rw [IntKind.wrap_i64]; omega
      by_cases h1 : kx = k
      · subst h1
        have h47 : ((kx : Int) != (nn : Int) - 1 - (m : Int)) = false := by have := HK.out; simp; omega
        by_cases hxy : xi = y
        · subst hxy
          gi_wp2
          refine wp_calmV (n := 20) (by kernel_rfl) (by kernel_rfl) rfl rfl ?_
          refine CalmV.take (i := 0) (v := ?_) (a' := ?_) (l' := #[true, false, false, false, false, false, false, false, false, false, false, false, false, false, false, false, false, false, false, false]) (d := some 38) rfl (by kernel_rfl) (by kernel_rfl) (by kernel_rfl) rfl ?_ rfl rfl ?_ ?_
          rotate_left
          · go_simp; try rfl
          rotate_left
          · simp only [Act.put]; exact rfl
          refine CalmV.take (i := 1) (v := ?_) (a' := ?_) (l' := #[true, true, false, false, false, false, false, false, false, false, false, false, false, false, false, false, false, false, false, false]) (d := some 39) rfl (by kernel_rfl) (by kernel_rfl) (by kernel_rfl) rfl ?_ rfl rfl ?_ ?_
          rotate_left
          · go_simp; try rfl
          rotate_left
          · simp only [Act.put]; exact rfl
          refine CalmV.take (i := 2) (v := ?_) (a' := ?_) (l' := #[true, true, true, false, false, false, false, false, false, false, false, false, false, false, false, false, false, false, false, false]) (d := some 40) rfl (by kernel_rfl) (by kernel_rfl) (by kernel_rfl) rfl ?_ rfl rfl ?_ ?_
          rotate_left
          · go_simp; try rfl
          rotate_left
          · simp only [Act.put]; exact rfl
          refine CalmV.take (i := 3) (v := ?_) (a' := ?_) (l' := #[true, true, true, true, false, false, false, false, false, false, false, false, false, false, false, false, false, false, false, false]) (d := some 41) rfl (by kernel_rfl) (by kernel_rfl) (by kernel_rfl) rfl ?_ rfl rfl ?_ ?_
          rotate_left
          · go_simp; try rfl
          rotate_left
          · simp only [Act.put]; exact rfl
          refine CalmV.take (i := 4) (v := ?_) (a' := ?_) (l' := #[true, true, true, true, true, false, false, false, false, false, false, false, false, false, false, false, false, false, false, false]) (d := some 42) rfl (by kernel_rfl) (by kernel_rfl) (by kernel_rfl) (by kernel_rfl) ?_ rfl rfl ?_ ?_
          rotate_left
          · go_simp; try rfl
          rotate_left
          · simp only [Act.put]; exact rfl
          refine CalmV.take (i := 5) (v := ?_) (a' := ?_) (l' := #[true, true, true, true, true, true, false, false, false, false, false, false, false, false, false, false, false, false, false, false]) (d := some 43) rfl (by kernel_rfl) (by kernel_rfl) (by kernel_rfl) (by kernel_rfl) ?_ rfl rfl ?_ ?_
          rotate_left
          · go_simp; try rfl
          rotate_left
          · simp only [Act.put]; exact rfl
          refine CalmV.take (i := 6) (v := ?_) (a' := ?_) (l' := #[true, true, true, true, true, true, true, false, false, false, false, false, false, false, false, false, false, false, false, false]) (d := some 44) rfl (by kernel_rfl) (by kernel_rfl) (by kernel_rfl) (by kernel_rfl) ?_ rfl rfl ?_ ?_
          rotate_left
          · go_simp; try rfl
          rotate_left
          · simp only [Act.put]; exact rfl
          refine CalmV.take (i := 7) (v := ?_) (a' := ?_) (l' := #[true, true, true, true, true, true, true, true, false, false, false, false, false, false, false, false, false, false, false, false]) (d := some 45) rfl (by kernel_rfl) (by kernel_rfl) (by kernel_rfl) (by kernel_rfl) ?_ rfl rfl ?_ ?_
          rotate_left
          · go_simp; try rfl
          rotate_left
          · simp only [Act.put]; exact rfl
          refine CalmV.take (i := 8) (v := ?_) (a' := ?_) (l' := #[true, true, true, true, true, true, true, true, true, false, false, false, false, false, false, false, false, false, false, false]) (d := some 46) rfl (by kernel_rfl) (by kernel_rfl) (by kernel_rfl) (by kernel_rfl) ?_ rfl rfl ?_ ?_
          rotate_left
          · go_simp; try rfl
          rotate_left
          · simp only [Act.put]; exact rfl
          refine CalmV.take (i := 9) (v := ?_) (a' := ?_) (l' := #[true, true, true, true, true, true, true, true, true, true, false, false, false, false, false, false, false, false, false, false]) (d := some 47) rfl (by kernel_rfl) (by kernel_rfl) (by kernel_rfl) (by kernel_rfl) ?_ rfl rfl ?_ ?_
          rotate_left
          · go_simp; try rfl
          rotate_left
          · simp only [Act.put]; exact rfl
          refine CalmV.take (i := 10) (v := ?_) (a' := ?_) (l' := #[true, true, true, true, true, true, true, true, true, true, true, false, false, false, false, false, false, false, false, false]) (d := some 48) rfl (by kernel_rfl) (by kernel_rfl) (by kernel_rfl) rfl ?_ rfl rfl ?_ ?_
          rotate_left
          · go_simp; try rfl
          rotate_left
          · simp only [Act.put]; exact rfl
          refine CalmV.take (i := 11) (v := ?_) (a' := ?_) (l' := #[true, true, true, true, true, true, true, true, true, true, true, true, false, false, false, false, false, false, false, false]) (d := some 49) rfl (by kernel_rfl) (by kernel_rfl) (by kernel_rfl) rfl ?_ rfl rfl ?_ ?_
          rotate_left
          · go_simp; try rfl
          rotate_left
          · simp only [Act.put]; exact rfl
          refine CalmV.take (i := 12) (v := ?_) (a' := ?_) (l' := #[true, true, true, true, true, true, true, true, true, true, true, true, true, false, false, false, false, false, false, false]) (d := some 50) rfl (by kernel_rfl) (by kernel_rfl) (by kernel_rfl) (by kernel_rfl) ?_ rfl rfl ?_ ?_
          rotate_left
          · go_simp; try rfl
          rotate_left
          · simp only [Act.put]; exact rfl
          refine CalmV.take (i := 13) (v := ?_) (a' := ?_) (l' := #[true, true, true, true, true, true, true, true, true, true, true, true, true, true, false, false, false, false, false, false]) (d := some 51) rfl (by kernel_rfl) (by kernel_rfl) (by kernel_rfl) (by kernel_rfl) ?_ rfl rfl ?_ ?_
          rotate_left
          · go_simp; try rfl
          rotate_left
          · simp only [Act.put]; exact rfl
          refine CalmV.take (i := 14) (v := ?_) (a' := ?_) (l' := #[true, true, true, true, true, true, true, true, true, true, true, true, true, true, true, false, false, false, false, false]) (d := some 52) rfl (by kernel_rfl) (by kernel_rfl) (by kernel_rfl) (by kernel_rfl) ?_ rfl rfl ?_ ?_
          rotate_left
          · go_simp; try rfl
          rotate_left
          · simp only [Act.put]; exact rfl
          refine CalmV.take (i := 15) (v := ?_) (a' := ?_) (l' := #[true, true, true, true, true, true, true, true, true, true, true, true, true, true, true, true, false, false, false, false]) (d := some 53) rfl (by kernel_rfl) (by kernel_rfl) (by kernel_rfl) (by kernel_rfl) ?_ rfl rfl ?_ ?_
          rotate_left
          · go_simp; try rfl
          rotate_left
          · simp only [Act.put]; exact rfl
          refine CalmV.take (i := 16) (v := ?_) (a' := ?_) (l' := #[true, true, true, true, true, true, true, true, true, true, true, true, true, true, true, true, true, false, false, false]) (d := some 54) rfl (by kernel_rfl) (by kernel_rfl) (by kernel_rfl) (by kernel_rfl) ?_ rfl rfl ?_ ?_
          rotate_left
          · go_simp; try rfl
          rotate_left
          · simp only [Act.put]; exact rfl
          refine CalmV.take (i := 17) (v := ?_) (a' := ?_) (l' := #[true, true, true, true, true, true, true, true, true, true, true, true, true, true, true, true, true, true, false, false]) (d := some 55) rfl (by kernel_rfl) (by kernel_rfl) (by kernel_rfl) (by kernel_rfl) ?_ rfl rfl ?_ ?_
          rotate_left
          · go_simp; try rfl
          rotate_left
          · simp only [Act.put]; exact rfl
          refine CalmV.take (i := 18) (v := ?_) (a' := ?_) (l' := #[true, true, true, true, true, true, true, true, true, true, true, true, true, true, true, true, true, true, true, false]) (d := some 56) rfl (by kernel_rfl) (by kernel_rfl) (by kernel_rfl) (by kernel_rfl) ?_ rfl rfl ?_ ?_
          rotate_left
          · go_simp; try rfl
          rotate_left
          · simp only [Act.put]; exact rfl
          refine CalmV.take (i := 19) (v := ?_) (a' := ?_) (l' := #[true, true, true, true, true, true, true, true, true, true, true, true, true, true, true, true, true, true, true, true]) (d := some 57) rfl (by kernel_rfl) (by kernel_rfl) (by kernel_rfl) rfl ?_ rfl rfl ?_ ?_
          rotate_left
          · go_simp; try rfl
          rotate_left
          · simp only [Act.put]; exact rfl
          refine CalmV.done (by kernel_rfl) ?_
          try simp only [List.setIfInBounds_toArray, List.set_cons_succ, List.set_cons_zero]
          clear y0 y1 y2 y3 y4 z0 z1 z2 z3 z4 hp2
          replace HS := hide (sb_drew HS.out)
          replace HI' := hide (bx_drew HI'.out)
          by_cases hq : (m : Int) + 1 = stop
          · subst hq
            gi_wp2
            exact ⟨((ko_drew W).trans (KeepsOthers.setCell _ _ _)).from _, fun h => (by cases h), fun _ => ⟨trivial, rfl, HI'.out.set _, HS.out.set _⟩⟩
          · have hq' : ((m : Int) + 1 == stop) = false := by simp; exact hq
            gi_wp2
            exact ⟨((ko_drew W).trans (KeepsOthers.setCell _ _ _)).from _, (keeps_drew W).trans (((SameBut.refl _ W.drew).set _).keeps (by have := LWI01.out; omega) (by have := HS.out.base.size; have := HW.out.size; omega)), by rw [List.length_append, List.length_singleton, ← HM.out]; exact HI'.out.set _, HS.out.set _⟩
        · rcases ins_ne hxy with e | ⟨e1, e⟩ | ⟨e1, e2, e⟩ | ⟨e1, e2, e3, e⟩ | ⟨e1, e2, e3, e4, e⟩
          · have q0 : (xi.op == y.op) = false := by simp [e]
            clear e
            gi_wp2
            refine wp_calmV (n := 20) (by kernel_rfl) (by kernel_rfl) rfl rfl ?_
            refine CalmV.take (i := 0) (v := ?_) (a' := ?_) (l' := #[true, false, false, false, false, false, false, false, false, false, false, false, false, false, false, false, false, false, false, false]) (d := some 38) rfl (by kernel_rfl) (by kernel_rfl) (by kernel_rfl) rfl ?_ rfl rfl ?_ ?_
            rotate_left
            · go_simp; try rfl
            rotate_left
            · simp only [Act.put]; exact rfl
            refine CalmV.take (i := 1) (v := ?_) (a' := ?_) (l' := #[true, true, false, false, false, false, false, false, false, false, false, false, false, false, false, false, false, false, false, false]) (d := some 39) rfl (by kernel_rfl) (by kernel_rfl) (by kernel_rfl) rfl ?_ rfl rfl ?_ ?_
            rotate_left
            · go_simp; try rfl
            rotate_left
            · simp only [Act.put]; exact rfl
            refine CalmV.take (i := 2) (v := ?_) (a' := ?_) (l' := #[true, true, true, false, false, false, false, false, false, false, false, false, false, false, false, false, false, false, false, false]) (d := some 40) rfl (by kernel_rfl) (by kernel_rfl) (by kernel_rfl) rfl ?_ rfl rfl ?_ ?_
            rotate_left
            · go_simp; try rfl
            rotate_left
            · simp only [Act.put]; exact rfl
            refine CalmV.take (i := 3) (v := ?_) (a' := ?_) (l' := #[true, true, true, true, false, false, false, false, false, false, false, false, false, false, false, false, false, false, false, false]) (d := some 41) rfl (by kernel_rfl) (by kernel_rfl) (by kernel_rfl) rfl ?_ rfl rfl ?_ ?_
            rotate_left
            · go_simp; try rfl
            rotate_left
            · simp only [Act.put]; exact rfl
            refine CalmV.take (i := 4) (v := ?_) (a' := ?_) (l' := #[true, true, true, true, true, false, false, false, false, false, false, false, false, false, false, false, false, false, false, false]) (d := some 42) rfl (by kernel_rfl) (by kernel_rfl) (by kernel_rfl) (by kernel_rfl) ?_ rfl rfl ?_ ?_
            rotate_left
            · go_simp; try rfl
            rotate_left
            · simp only [Act.put]; exact rfl
            refine CalmV.take (i := 5) (v := ?_) (a' := ?_) (l' := #[true, true, true, true, true, true, false, false, false, false, false, false, false, false, false, false, false, false, false, false]) (d := some 43) rfl (by kernel_rfl) (by kernel_rfl) (by kernel_rfl) (by kernel_rfl) ?_ rfl rfl ?_ ?_
            rotate_left
            · go_simp; try rfl
            rotate_left
            · simp only [Act.put]; exact rfl
            refine CalmV.take (i := 6) (v := ?_) (a' := ?_) (l' := #[true, true, true, true, true, true, true, false, false, false, false, false, false, false, false, false, false, false, false, false]) (d := some 44) rfl (by kernel_rfl) (by kernel_rfl) (by kernel_rfl) (by kernel_rfl) ?_ rfl rfl ?_ ?_
            rotate_left
            · go_simp; try rfl
            rotate_left
            · simp only [Act.put]; exact rfl
            refine CalmV.take (i := 7) (v := ?_) (a' := ?_) (l' := #[true, true, true, true, true, true, true, true, false, false, false, false, false, false, false, false, false, false, false, false]) (d := some 45) rfl (by kernel_rfl) (by kernel_rfl) (by kernel_rfl) (by kernel_rfl) ?_ rfl rfl ?_ ?_
            rotate_left
            · go_simp; try rfl
            rotate_left
            · simp only [Act.put]; exact rfl
            refine CalmV.take (i := 8) (v := ?_) (a' := ?_) (l' := #[true, true, true, true, true, true, true, true, true, false, false, false, false, false, false, false, false, false, false, false]) (d := some 46) rfl (by kernel_rfl) (by kernel_rfl) (by kernel_rfl) (by kernel_rfl) ?_ rfl rfl ?_ ?_
            rotate_left
            · go_simp; try rfl
            rotate_left
            · simp only [Act.put]; exact rfl
            refine CalmV.take (i := 9) (v := ?_) (a' := ?_) (l' := #[true, true, true, true, true, true, true, true, true, true, false, false, false, false, false, false, false, false, false, false]) (d := some 47) rfl (by kernel_rfl) (by kernel_rfl) (by kernel_rfl) (by kernel_rfl) ?_ rfl rfl ?_ ?_
            rotate_left
            · go_simp; try rfl
            rotate_left
            · simp only [Act.put]; exact rfl
            refine CalmV.take (i := 10) (v := ?_) (a' := ?_) (l' := #[true, true, true, true, true, true, true, true, true, true, true, false, false, false, false, false, false, false, false, false]) (d := some 48) rfl (by kernel_rfl) (by kernel_rfl) (by kernel_rfl) rfl ?_ rfl rfl ?_ ?_
            rotate_left
            · go_simp; try rfl
            rotate_left
            · simp only [Act.put]; exact rfl
            refine CalmV.take (i := 11) (v := ?_) (a' := ?_) (l' := #[true, true, true, true, true, true, true, true, true, true, true, true, false, false, false, false, false, false, false, false]) (d := some 49) rfl (by kernel_rfl) (by kernel_rfl) (by kernel_rfl) rfl ?_ rfl rfl ?_ ?_
            rotate_left
            · go_simp; try rfl
            rotate_left
            · simp only [Act.put]; exact rfl
            refine CalmV.take (i := 12) (v := ?_) (a' := ?_) (l' := #[true, true, true, true, true, true, true, true, true, true, true, true, true, false, false, false, false, false, false, false]) (d := some 50) rfl (by kernel_rfl) (by kernel_rfl) (by kernel_rfl) (by kernel_rfl) ?_ rfl rfl ?_ ?_
            rotate_left
            · go_simp; try rfl
            rotate_left
            · simp only [Act.put]; exact rfl
            refine CalmV.take (i := 13) (v := ?_) (a' := ?_) (l' := #[true, true, true, true, true, true, true, true, true, true, true, true, true, true, false, false, false, false, false, false]) (d := some 51) rfl (by kernel_rfl) (by kernel_rfl) (by kernel_rfl) (by kernel_rfl) ?_ rfl rfl ?_ ?_
            rotate_left
            · go_simp; try rfl
            rotate_left
            · simp only [Act.put]; exact rfl
            refine CalmV.take (i := 14) (v := ?_) (a' := ?_) (l' := #[true, true, true, true, true, true, true, true, true, true, true, true, true, true, true, false, false, false, false, false]) (d := some 52) rfl (by kernel_rfl) (by kernel_rfl) (by kernel_rfl) (by kernel_rfl) ?_ rfl rfl ?_ ?_
            rotate_left
            · go_simp; try rfl
            rotate_left
            · simp only [Act.put]; exact rfl
            refine CalmV.take (i := 15) (v := ?_) (a' := ?_) (l' := #[true, true, true, true, true, true, true, true, true, true, true, true, true, true, true, true, false, false, false, false]) (d := some 53) rfl (by kernel_rfl) (by kernel_rfl) (by kernel_rfl) (by kernel_rfl) ?_ rfl rfl ?_ ?_
            rotate_left
            · go_simp; try rfl
            rotate_left
            · simp only [Act.put]; exact rfl
            refine CalmV.take (i := 16) (v := ?_) (a' := ?_) (l' := #[true, true, true, true, true, true, true, true, true, true, true, true, true, true, true, true, true, false, false, false]) (d := some 54) rfl (by kernel_rfl) (by kernel_rfl) (by kernel_rfl) (by kernel_rfl) ?_ rfl rfl ?_ ?_
            rotate_left
            · go_simp; try rfl
            rotate_left
            · simp only [Act.put]; exact rfl
            refine CalmV.take (i := 17) (v := ?_) (a' := ?_) (l' := #[true, true, true, true, true, true, true, true, true, true, true, true, true, true, true, true, true, true, false, false]) (d := some 55) rfl (by kernel_rfl) (by kernel_rfl) (by kernel_rfl) (by kernel_rfl) ?_ rfl rfl ?_ ?_
            rotate_left
            · go_simp; try rfl
            rotate_left
            · simp only [Act.put]; exact rfl
            refine CalmV.take (i := 18) (v := ?_) (a' := ?_) (l' := #[true, true, true, true, true, true, true, true, true, true, true, true, true, true, true, true, true, true, true, false]) (d := some 56) rfl (by kernel_rfl) (by kernel_rfl) (by kernel_rfl) (by kernel_rfl) ?_ rfl rfl ?_ ?_
            rotate_left
            · go_simp; try rfl
            rotate_left
            · simp only [Act.put]; exact rfl
            refine CalmV.take (i := 19) (v := ?_) (a' := ?_) (l' := #[true, true, true, true, true, true, true, true, true, true, true, true, true, true, true, true, true, true, true, true]) (d := some 57) rfl (by kernel_rfl) (by kernel_rfl) (by kernel_rfl) rfl ?_ rfl rfl ?_ ?_
            rotate_left
            · go_simp; try rfl
            rotate_left
            · simp only [Act.put]; exact rfl
            refine CalmV.done (by kernel_rfl) ?_
            try simp only [List.setIfInBounds_toArray, List.set_cons_succ, List.set_cons_zero]
            clear y0 y1 y2 y3 y4 z0 z1 z2 z3 z4 hp2
            replace HS := hide (sb_drew HS.out)
            replace HI' := hide (bx_drew HI'.out)
            gi_wp2
            refine ⟨((ko_drew W).trans (KeepsOthers.setCell _ _ _)).from _, ?_⟩
            exact ⟨fun _ => ⟨pre, _, rfl, by rw [CE.out, ← HN.out, ← HM.out]; exact hlt, fun e => hxy (by have := (Prod.mk.inj e).2; rw [this, HY.out, CE.out]; congr 1; rw [HK.out, ← HN.out, ← HM.out])⟩, fun h => absurd rfl h⟩
          · have q1 : (xi.to == y.to) = false := by simp [e]
            rw [e1] at y0
            clear e e1
            gi_wp2
            refine wp_calmV (n := 20) (by kernel_rfl) (by kernel_rfl) rfl rfl ?_
            refine CalmV.take (i := 0) (v := ?_) (a' := ?_) (l' := #[true, false, false, false, false, false, false, false, false, false, false, false, false, false, false, false, false, false, false, false]) (d := some 38) rfl (by kernel_rfl) (by kernel_rfl) (by kernel_rfl) rfl ?_ rfl rfl ?_ ?_
            rotate_left
            · go_simp; try rfl
            rotate_left
            · simp only [Act.put]; exact rfl
            refine CalmV.take (i := 1) (v := ?_) (a' := ?_) (l' := #[true, true, false, false, false, false, false, false, false, false, false, false, false, false, false, false, false, false, false, false]) (d := some 39) rfl (by kernel_rfl) (by kernel_rfl) (by kernel_rfl) rfl ?_ rfl rfl ?_ ?_
            rotate_left
            · go_simp; try rfl
            rotate_left
            · simp only [Act.put]; exact rfl
            refine CalmV.take (i := 2) (v := ?_) (a' := ?_) (l' := #[true, true, true, false, false, false, false, false, false, false, false, false, false, false, false, false, false, false, false, false]) (d := some 40) rfl (by kernel_rfl) (by kernel_rfl) (by kernel_rfl) rfl ?_ rfl rfl ?_ ?_
            rotate_left
            · go_simp; try rfl
            rotate_left
            · simp only [Act.put]; exact rfl
            refine CalmV.take (i := 3) (v := ?_) (a' := ?_) (l' := #[true, true, true, true, false, false, false, false, false, false, false, false, false, false, false, false, false, false, false, false]) (d := some 41) rfl (by kernel_rfl) (by kernel_rfl) (by kernel_rfl) rfl ?_ rfl rfl ?_ ?_
            rotate_left
            · go_simp; try rfl
            rotate_left
            · simp only [Act.put]; exact rfl
            refine CalmV.take (i := 4) (v := ?_) (a' := ?_) (l' := #[true, true, true, true, true, false, false, false, false, false, false, false, false, false, false, false, false, false, false, false]) (d := some 42) rfl (by kernel_rfl) (by kernel_rfl) (by kernel_rfl) (by kernel_rfl) ?_ rfl rfl ?_ ?_
            rotate_left
            · go_simp; try rfl
            rotate_left
            · simp only [Act.put]; exact rfl
            refine CalmV.take (i := 5) (v := ?_) (a' := ?_) (l' := #[true, true, true, true, true, true, false, false, false, false, false, false, false, false, false, false, false, false, false, false]) (d := some 43) rfl (by kernel_rfl) (by kernel_rfl) (by kernel_rfl) (by kernel_rfl) ?_ rfl rfl ?_ ?_
            rotate_left
            · go_simp; try rfl
            rotate_left
            · simp only [Act.put]; exact rfl
            refine CalmV.take (i := 6) (v := ?_) (a' := ?_) (l' := #[true, true, true, true, true, true, true, false, false, false, false, false, false, false, false, false, false, false, false, false]) (d := some 44) rfl (by kernel_rfl) (by kernel_rfl) (by kernel_rfl) (by kernel_rfl) ?_ rfl rfl ?_ ?_
            rotate_left
            · go_simp; try rfl
            rotate_left
            · simp only [Act.put]; exact rfl
            refine CalmV.take (i := 7) (v := ?_) (a' := ?_) (l' := #[true, true, true, true, true, true, true, true, false, false, false, false, false, false, false, false, false, false, false, false]) (d := some 45) rfl (by kernel_rfl) (by kernel_rfl) (by kernel_rfl) (by kernel_rfl) ?_ rfl rfl ?_ ?_
            rotate_left
            · go_simp; try rfl
            rotate_left
            · simp only [Act.put]; exact rfl
            refine CalmV.take (i := 8) (v := ?_) (a' := ?_) (l' := #[true, true, true, true, true, true, true, true, true, false, false, false, false, false, false, false, false, false, false, false]) (d := some 46) rfl (by kernel_rfl) (by kernel_rfl) (by kernel_rfl) (by kernel_rfl) ?_ rfl rfl ?_ ?_
            rotate_left
            · go_simp; try rfl
            rotate_left
            · simp only [Act.put]; exact rfl
            refine CalmV.take (i := 9) (v := ?_) (a' := ?_) (l' := #[true, true, true, true, true, true, true, true, true, true, false, false, false, false, false, false, false, false, false, false]) (d := some 47) rfl (by kernel_rfl) (by kernel_rfl) (by kernel_rfl) (by kernel_rfl) ?_ rfl rfl ?_ ?_
            rotate_left
            · go_simp; try rfl
            rotate_left
            · simp only [Act.put]; exact rfl
            refine CalmV.take (i := 10) (v := ?_) (a' := ?_) (l' := #[true, true, true, true, true, true, true, true, true, true, true, false, false, false, false, false, false, false, false, false]) (d := some 48) rfl (by kernel_rfl) (by kernel_rfl) (by kernel_rfl) rfl ?_ rfl rfl ?_ ?_
            rotate_left
            · go_simp; try rfl
            rotate_left
            · simp only [Act.put]; exact rfl
            refine CalmV.take (i := 11) (v := ?_) (a' := ?_) (l' := #[true, true, true, true, true, true, true, true, true, true, true, true, false, false, false, false, false, false, false, false]) (d := some 49) rfl (by kernel_rfl) (by kernel_rfl) (by kernel_rfl) rfl ?_ rfl rfl ?_ ?_
            rotate_left
            · go_simp; try rfl
            rotate_left
            · simp only [Act.put]; exact rfl
            refine CalmV.take (i := 12) (v := ?_) (a' := ?_) (l' := #[true, true, true, true, true, true, true, true, true, true, true, true, true, false, false, false, false, false, false, false]) (d := some 50) rfl (by kernel_rfl) (by kernel_rfl) (by kernel_rfl) (by kernel_rfl) ?_ rfl rfl ?_ ?_
            rotate_left
            · go_simp; try rfl
            rotate_left
            · simp only [Act.put]; exact rfl
            refine CalmV.take (i := 13) (v := ?_) (a' := ?_) (l' := #[true, true, true, true, true, true, true, true, true, true, true, true, true, true, false, false, false, false, false, false]) (d := some 51) rfl (by kernel_rfl) (by kernel_rfl) (by kernel_rfl) (by kernel_rfl) ?_ rfl rfl ?_ ?_
            rotate_left
            · go_simp; try rfl
            rotate_left
            · simp only [Act.put]; exact rfl
            refine CalmV.take (i := 14) (v := ?_) (a' := ?_) (l' := #[true, true, true, true, true, true, true, true, true, true, true, true, true, true, true, false, false, false, false, false]) (d := some 52) rfl (by kernel_rfl) (by kernel_rfl) (by kernel_rfl) (by kernel_rfl) ?_ rfl rfl ?_ ?_
            rotate_left
            · go_simp; try rfl
            rotate_left
            · simp only [Act.put]; exact rfl
            refine CalmV.take (i := 15) (v := ?_) (a' := ?_) (l' := #[true, true, true, true, true, true, true, true, true, true, true, true, true, true, true, true, false, false, false, false]) (d := some 53) rfl (by kernel_rfl) (by kernel_rfl) (by kernel_rfl) (by kernel_rfl) ?_ rfl rfl ?_ ?_
            rotate_left
            · go_simp; try rfl
            rotate_left
            · simp only [Act.put]; exact rfl
            refine CalmV.take (i := 16) (v := ?_) (a' := ?_) (l' := #[true, true, true, true, true, true, true, true, true, true, true, true, true, true, true, true, true, false, false, false]) (d := some 54) rfl (by kernel_rfl) (by kernel_rfl) (by kernel_rfl) (by kernel_rfl) ?_ rfl rfl ?_ ?_
            rotate_left
            · go_simp; try rfl
            rotate_left
            · simp only [Act.put]; exact rfl
            refine CalmV.take (i := 17) (v := ?_) (a' := ?_) (l' := #[true, true, true, true, true, true, true, true, true, true, true, true, true, true, true, true, true, true, false, false]) (d := some 55) rfl (by kernel_rfl) (by kernel_rfl) (by kernel_rfl) (by kernel_rfl) ?_ rfl rfl ?_ ?_
            rotate_left
            · go_simp; try rfl
            rotate_left
            · simp only [Act.put]; exact rfl
            refine CalmV.take (i := 18) (v := ?_) (a' := ?_) (l' := #[true, true, true, true, true, true, true, true, true, true, true, true, true, true, true, true, true, true, true, false]) (d := some 56) rfl (by kernel_rfl) (by kernel_rfl) (by kernel_rfl) (by kernel_rfl) ?_ rfl rfl ?_ ?_
            rotate_left
            · go_simp; try rfl
            rotate_left
            · simp only [Act.put]; exact rfl
            refine CalmV.take (i := 19) (v := ?_) (a' := ?_) (l' := #[true, true, true, true, true, true, true, true, true, true, true, true, true, true, true, true, true, true, true, true]) (d := some 57) rfl (by kernel_rfl) (by kernel_rfl) (by kernel_rfl) rfl ?_ rfl rfl ?_ ?_
            rotate_left
            · go_simp; try rfl
            rotate_left
            · simp only [Act.put]; exact rfl
            refine CalmV.done (by kernel_rfl) ?_
            try simp only [List.setIfInBounds_toArray, List.set_cons_succ, List.set_cons_zero]
            clear y0 y1 y2 y3 y4 z0 z1 z2 z3 z4 hp2
            replace HS := hide (sb_drew HS.out)
            replace HI' := hide (bx_drew HI'.out)
            gi_wp2
            refine ⟨((ko_drew W).trans (KeepsOthers.setCell _ _ _)).from _, ?_⟩
            exact ⟨fun _ => ⟨pre, _, rfl, by rw [CE.out, ← HN.out, ← HM.out]; exact hlt, fun e => hxy (by have := (Prod.mk.inj e).2; rw [this, HY.out, CE.out]; congr 1; rw [HK.out, ← HN.out, ← HM.out])⟩, fun h => absurd rfl h⟩
          · have q2 : (xi.a == y.a) = false := by simp [e]
            rw [e1] at y0
            rw [e2] at y1
            clear e e1 e2
            gi_wp2
            refine wp_calmV (n := 20) (by kernel_rfl) (by kernel_rfl) rfl rfl ?_
            refine CalmV.take (i := 0) (v := ?_) (a' := ?_) (l' := #[true, false, false, false, false, false, false, false, false, false, false, false, false, false, false, false, false, false, false, false]) (d := some 38) rfl (by kernel_rfl) (by kernel_rfl) (by kernel_rfl) rfl ?_ rfl rfl ?_ ?_
            rotate_left
            · go_simp; try rfl
            rotate_left
            · simp only [Act.put]; exact rfl
            refine CalmV.take (i := 1) (v := ?_) (a' := ?_) (l' := #[true, true, false, false, false, false, false, false, false, false, false, false, false, false, false, false, false, false, false, false]) (d := some 39) rfl (by kernel_rfl) (by kernel_rfl) (by kernel_rfl) rfl ?_ rfl rfl ?_ ?_
            rotate_left
            · go_simp; try rfl
            rotate_left
            · simp only [Act.put]; exact rfl
            refine CalmV.take (i := 2) (v := ?_) (a' := ?_) (l' := #[true, true, true, false, false, false, false, false, false, false, false, false, false, false, false, false, false, false, false, false]) (d := some 40) rfl (by kernel_rfl) (by kernel_rfl) (by kernel_rfl) rfl ?_ rfl rfl ?_ ?_
            rotate_left
            · go_simp; try rfl
            rotate_left
            · simp only [Act.put]; exact rfl
            refine CalmV.take (i := 3) (v := ?_) (a' := ?_) (l' := #[true, true, true, true, false, false, false, false, false, false, false, false, false, false, false, false, false, false, false, false]) (d := some 41) rfl (by kernel_rfl) (by kernel_rfl) (by kernel_rfl) rfl ?_ rfl rfl ?_ ?_
            rotate_left
            · go_simp; try rfl
            rotate_left
            · simp only [Act.put]; exact rfl
            refine CalmV.take (i := 4) (v := ?_) (a' := ?_) (l' := #[true, true, true, true, true, false, false, false, false, false, false, false, false, false, false, false, false, false, false, false]) (d := some 42) rfl (by kernel_rfl) (by kernel_rfl) (by kernel_rfl) (by kernel_rfl) ?_ rfl rfl ?_ ?_
            rotate_left
            · go_simp; try rfl
            rotate_left
            · simp only [Act.put]; exact rfl
            refine CalmV.take (i := 5) (v := ?_) (a' := ?_) (l' := #[true, true, true, true, true, true, false, false, false, false, false, false, false, false, false, false, false, false, false, false]) (d := some 43) rfl (by kernel_rfl) (by kernel_rfl) (by kernel_rfl) (by kernel_rfl) ?_ rfl rfl ?_ ?_
            rotate_left
            · go_simp; try rfl
            rotate_left
            · simp only [Act.put]; exact rfl
            refine CalmV.take (i := 6) (v := ?_) (a' := ?_) (l' := #[true, true, true, true, true, true, true, false, false, false, false, false, false, false, false, false, false, false, false, false]) (d := some 44) rfl (by kernel_rfl) (by kernel_rfl) (by kernel_rfl) (by kernel_rfl) ?_ rfl rfl ?_ ?_
            rotate_left
            · go_simp; try rfl
            rotate_left
            · simp only [Act.put]; exact rfl
            refine CalmV.take (i := 7) (v := ?_) (a' := ?_) (l' := #[true, true, true, true, true, true, true, true, false, false, false, false, false, false, false, false, false, false, false, false]) (d := some 45) rfl (by kernel_rfl) (by kernel_rfl) (by kernel_rfl) (by kernel_rfl) ?_ rfl rfl ?_ ?_
            rotate_left
            · go_simp; try rfl
            rotate_left
            · simp only [Act.put]; exact rfl
            refine CalmV.take (i := 8) (v := ?_) (a' := ?_) (l' := #[true, true, true, true, true, true, true, true, true, false, false, false, false, false, false, false, false, false, false, false]) (d := some 46) rfl (by kernel_rfl) (by kernel_rfl) (by kernel_rfl) (by kernel_rfl) ?_ rfl rfl ?_ ?_
            rotate_left
            · go_simp; try rfl
            rotate_left
            · simp only [Act.put]; exact rfl
            refine CalmV.take (i := 9) (v := ?_) (a' := ?_) (l' := #[true, true, true, true, true, true, true, true, true, true, false, false, false, false, false, false, false, false, false, false]) (d := some 47) rfl (by kernel_rfl) (by kernel_rfl) (by kernel_rfl) (by kernel_rfl) ?_ rfl rfl ?_ ?_
            rotate_left
            · go_simp; try rfl
            rotate_left
            · simp only [Act.put]; exact rfl
            refine CalmV.take (i := 10) (v := ?_) (a' := ?_) (l' := #[true, true, true, true, true, true, true, true, true, true, true, false, false, false, false, false, false, false, false, false]) (d := some 48) rfl (by kernel_rfl) (by kernel_rfl) (by kernel_rfl) rfl ?_ rfl rfl ?_ ?_
            rotate_left
            · go_simp; try rfl
            rotate_left
            · simp only [Act.put]; exact rfl
            refine CalmV.take (i := 11) (v := ?_) (a' := ?_) (l' := #[true, true, true, true, true, true, true, true, true, true, true, true, false, false, false, false, false, false, false, false]) (d := some 49) rfl (by kernel_rfl) (by kernel_rfl) (by kernel_rfl) rfl ?_ rfl rfl ?_ ?_
            rotate_left
            · go_simp; try rfl
            rotate_left
            · simp only [Act.put]; exact rfl
            refine CalmV.take (i := 12) (v := ?_) (a' := ?_) (l' := #[true, true, true, true, true, true, true, true, true, true, true, true, true, false, false, false, false, false, false, false]) (d := some 50) rfl (by kernel_rfl) (by kernel_rfl) (by kernel_rfl) (by kernel_rfl) ?_ rfl rfl ?_ ?_
            rotate_left
            · go_simp; try rfl
            rotate_left
            · simp only [Act.put]; exact rfl
            refine CalmV.take (i := 13) (v := ?_) (a' := ?_) (l' := #[true, true, true, true, true, true, true, true, true, true, true, true, true, true, false, false, false, false, false, false]) (d := some 51) rfl (by kernel_rfl) (by kernel_rfl) (by kernel_rfl) (by kernel_rfl) ?_ rfl rfl ?_ ?_
            rotate_left
            · go_simp; try rfl
            rotate_left
            · simp only [Act.put]; exact rfl
            refine CalmV.take (i := 14) (v := ?_) (a' := ?_) (l' := #[true, true, true, true, true, true, true, true, true, true, true, true, true, true, true, false, false, false, false, false]) (d := some 52) rfl (by kernel_rfl) (by kernel_rfl) (by kernel_rfl) (by kernel_rfl) ?_ rfl rfl ?_ ?_
            rotate_left
            · go_simp; try rfl
            rotate_left
            · simp only [Act.put]; exact rfl
            refine CalmV.take (i := 15) (v := ?_) (a' := ?_) (l' := #[true, true, true, true, true, true, true, true, true, true, true, true, true, true, true, true, false, false, false, false]) (d := some 53) rfl (by kernel_rfl) (by kernel_rfl) (by kernel_rfl) (by kernel_rfl) ?_ rfl rfl ?_ ?_
            rotate_left
            · go_simp; try rfl
            rotate_left
            · simp only [Act.put]; exact rfl
            refine CalmV.take (i := 16) (v := ?_) (a' := ?_) (l' := #[true, true, true, true, true, true, true, true, true, true, true, true, true, true, true, true, true, false, false, false]) (d := some 54) rfl (by kernel_rfl) (by kernel_rfl) (by kernel_rfl) (by kernel_rfl) ?_ rfl rfl ?_ ?_
            rotate_left
            · go_simp; try rfl
            rotate_left
            · simp only [Act.put]; exact rfl
            refine CalmV.take (i := 17) (v := ?_) (a' := ?_) (l' := #[true, true, true, true, true, true, true, true, true, true, true, true, true, true, true, true, true, true, false, false]) (d := some 55) rfl (by kernel_rfl) (by kernel_rfl) (by kernel_rfl) (by kernel_rfl) ?_ rfl rfl ?_ ?_
            rotate_left
            · go_simp; try rfl
            rotate_left
            · simp only [Act.put]; exact rfl
            refine CalmV.take (i := 18) (v := ?_) (a' := ?_) (l' := #[true, true, true, true, true, true, true, true, true, true, true, true, true, true, true, true, true, true, true, false]) (d := some 56) rfl (by kernel_rfl) (by kernel_rfl) (by kernel_rfl) (by kernel_rfl) ?_ rfl rfl ?_ ?_
            rotate_left
            · go_simp; try rfl
            rotate_left
            · simp only [Act.put]; exact rfl
            refine CalmV.take (i := 19) (v := ?_) (a' := ?_) (l' := #[true, true, true, true, true, true, true, true, true, true, true, true, true, true, true, true, true, true, true, true]) (d := some 57) rfl (by kernel_rfl) (by kernel_rfl) (by kernel_rfl) rfl ?_ rfl rfl ?_ ?_
            rotate_left
            · go_simp; try rfl
            rotate_left
            · simp only [Act.put]; exact rfl
            refine CalmV.done (by kernel_rfl) ?_
            try simp only [List.setIfInBounds_toArray, List.set_cons_succ, List.set_cons_zero]
            clear y0 y1 y2 y3 y4 z0 z1 z2 z3 z4 hp2
            replace HS := hide (sb_drew HS.out)
            replace HI' := hide (bx_drew HI'.out)
            gi_wp2
            refine ⟨((ko_drew W).trans (KeepsOthers.setCell _ _ _)).from _, ?_⟩
            exact ⟨fun _ => ⟨pre, _, rfl, by rw [CE.out, ← HN.out, ← HM.out]; exact hlt, fun e => hxy (by have := (Prod.mk.inj e).2; rw [this, HY.out, CE.out]; congr 1; rw [HK.out, ← HN.out, ← HM.out])⟩, fun h => absurd rfl h⟩
          · have q3 : (xi.b == y.b) = false := by simp [e]
            rw [e1] at y0
            rw [e2] at y1
            rw [e3] at y2
            clear e e1 e2 e3
            gi_wp2
            refine wp_calmV (n := 20) (by kernel_rfl) (by kernel_rfl) rfl rfl ?_
            refine CalmV.take (i := 0) (v := ?_) (a' := ?_) (l' := #[true, false, false, false, false, false, false, false, false, false, false, false, false, false, false, false, false, false, false, false]) (d := some 38) rfl (by kernel_rfl) (by kernel_rfl) (by kernel_rfl) rfl ?_ rfl rfl ?_ ?_
            rotate_left
            · go_simp; try rfl
            rotate_left
            · simp only [Act.put]; exact rfl
            refine CalmV.take (i := 1) (v := ?_) (a' := ?_) (l' := #[true, true, false, false, false, false, false, false, false, false, false, false, false, false, false, false, false, false, false, false]) (d := some 39) rfl (by kernel_rfl) (by kernel_rfl) (by kernel_rfl) rfl ?_ rfl rfl ?_ ?_
            rotate_left
            · go_simp; try rfl
            rotate_left
            · simp only [Act.put]; exact rfl
            refine CalmV.take (i := 2) (v := ?_) (a' := ?_) (l' := #[true, true, true, false, false, false, false, false, false, false, false, false, false, false, false, false, false, false, false, false]) (d := some 40) rfl (by kernel_rfl) (by kernel_rfl) (by kernel_rfl) rfl ?_ rfl rfl ?_ ?_
            rotate_left
            · go_simp; try rfl
            rotate_left
            · simp only [Act.put]; exact rfl
            refine CalmV.take (i := 3) (v := ?_) (a' := ?_) (l' := #[true, true, true, true, false, false, false, false, false, false, false, false, false, false, false, false, false, false, false, false]) (d := some 41) rfl (by kernel_rfl) (by kernel_rfl) (by kernel_rfl) rfl ?_ rfl rfl ?_ ?_
            rotate_left
            · go_simp; try rfl
            rotate_left
            · simp only [Act.put]; exact rfl
            refine CalmV.take (i := 4) (v := ?_) (a' := ?_) (l' := #[true, true, true, true, true, false, false, false, false, false, false, false, false, false, false, false, false, false, false, false]) (d := some 42) rfl (by kernel_rfl) (by kernel_rfl) (by kernel_rfl) (by kernel_rfl) ?_ rfl rfl ?_ ?_
            rotate_left
            · go_simp; try rfl
            rotate_left
            · simp only [Act.put]; exact rfl
            refine CalmV.take (i := 5) (v := ?_) (a' := ?_) (l' := #[true, true, true, true, true, true, false, false, false, false, false, false, false, false, false, false, false, false, false, false]) (d := some 43) rfl (by kernel_rfl) (by kernel_rfl) (by kernel_rfl) (by kernel_rfl) ?_ rfl rfl ?_ ?_
            rotate_left
            · go_simp; try rfl
            rotate_left
            · simp only [Act.put]; exact rfl
            refine CalmV.take (i := 6) (v := ?_) (a' := ?_) (l' := #[true, true, true, true, true, true, true, false, false, false, false, false, false, false, false, false, false, false, false, false]) (d := some 44) rfl (by kernel_rfl) (by kernel_rfl) (by kernel_rfl) (by kernel_rfl) ?_ rfl rfl ?_ ?_
            rotate_left
            · go_simp; try rfl
            rotate_left
            · simp only [Act.put]; exact rfl
            refine CalmV.take (i := 7) (v := ?_) (a' := ?_) (l' := #[true, true, true, true, true, true, true, true, false, false, false, false, false, false, false, false, false, false, false, false]) (d := some 45) rfl (by kernel_rfl) (by kernel_rfl) (by kernel_rfl) (by kernel_rfl) ?_ rfl rfl ?_ ?_
            rotate_left
            · go_simp; try rfl
            rotate_left
            · simp only [Act.put]; exact rfl
            refine CalmV.take (i := 8) (v := ?_) (a' := ?_) (l' := #[true, true, true, true, true, true, true, true, true, false, false, false, false, false, false, false, false, false, false, false]) (d := some 46) rfl (by kernel_rfl) (by kernel_rfl) (by kernel_rfl) (by kernel_rfl) ?_ rfl rfl ?_ ?_
            rotate_left
            · go_simp; try rfl
            rotate_left
            · simp only [Act.put]; exact rfl
            refine CalmV.take (i := 9) (v := ?_) (a' := ?_) (l' := #[true, true, true, true, true, true, true, true, true, true, false, false, false, false, false, false, false, false, false, false]) (d := some 47) rfl (by kernel_rfl) (by kernel_rfl) (by kernel_rfl) (by kernel_rfl) ?_ rfl rfl ?_ ?_
            rotate_left
            · go_simp; try rfl
            rotate_left
            · simp only [Act.put]; exact rfl
            refine CalmV.take (i := 10) (v := ?_) (a' := ?_) (l' := #[true, true, true, true, true, true, true, true, true, true, true, false, false, false, false, false, false, false, false, false]) (d := some 48) rfl (by kernel_rfl) (by kernel_rfl) (by kernel_rfl) rfl ?_ rfl rfl ?_ ?_
            rotate_left
            · go_simp; try rfl
            rotate_left
            · simp only [Act.put]; exact rfl
            refine CalmV.take (i := 11) (v := ?_) (a' := ?_) (l' := #[true, true, true, true, true, true, true, true, true, true, true, true, false, false, false, false, false, false, false, false]) (d := some 49) rfl (by kernel_rfl) (by kernel_rfl) (by kernel_rfl) rfl ?_ rfl rfl ?_ ?_
            rotate_left
            · go_simp; try rfl
            rotate_left
            · simp only [Act.put]; exact rfl
            refine CalmV.take (i := 12) (v := ?_) (a' := ?_) (l' := #[true, true, true, true, true, true, true, true, true, true, true, true, true, false, false, false, false, false, false, false]) (d := some 50) rfl (by kernel_rfl) (by kernel_rfl) (by kernel_rfl) (by kernel_rfl) ?_ rfl rfl ?_ ?_
            rotate_left
            · go_simp; try rfl
            rotate_left
            · simp only [Act.put]; exact rfl
            refine CalmV.take (i := 13) (v := ?_) (a' := ?_) (l' := #[true, true, true, true, true, true, true, true, true, true, true, true, true, true, false, false, false, false, false, false]) (d := some 51) rfl (by kernel_rfl) (by kernel_rfl) (by kernel_rfl) (by kernel_rfl) ?_ rfl rfl ?_ ?_
            rotate_left
            · go_simp; try rfl
            rotate_left
            · simp only [Act.put]; exact rfl
            refine CalmV.take (i := 14) (v := ?_) (a' := ?_) (l' := #[true, true, true, true, true, true, true, true, true, true, true, true, true, true, true, false, false, false, false, false]) (d := some 52) rfl (by kernel_rfl) (by kernel_rfl) (by kernel_rfl) (by kernel_rfl) ?_ rfl rfl ?_ ?_
            rotate_left
            · go_simp; try rfl
            rotate_left
            · simp only [Act.put]; exact rfl
            refine CalmV.take (i := 15) (v := ?_) (a' := ?_) (l' := #[true, true, true, true, true, true, true, true, true, true, true, true, true, true, true, true, false, false, false, false]) (d := some 53) rfl (by kernel_rfl) (by kernel_rfl) (by kernel_rfl) (by kernel_rfl) ?_ rfl rfl ?_ ?_
            rotate_left
            · go_simp; try rfl
            rotate_left
            · simp only [Act.put]; exact rfl
            refine CalmV.take (i := 16) (v := ?_) (a' := ?_) (l' := #[true, true, true, true, true, true, true, true, true, true, true, true, true, true, true, true, true, false, false, false]) (d := some 54) rfl (by kernel_rfl) (by kernel_rfl) (by kernel_rfl) (by kernel_rfl) ?_ rfl rfl ?_ ?_
            rotate_left
            · go_simp; try rfl
            rotate_left
            · simp only [Act.put]; exact rfl
            refine CalmV.take (i := 17) (v := ?_) (a' := ?_) (l' := #[true, true, true, true, true, true, true, true, true, true, true, true, true, true, true, true, true, true, false, false]) (d := some 55) rfl (by kernel_rfl) (by kernel_rfl) (by kernel_rfl) (by kernel_rfl) ?_ rfl rfl ?_ ?_
            rotate_left
            · go_simp; try rfl
            rotate_left
            · simp only [Act.put]; exact rfl
            refine CalmV.take (i := 18) (v := ?_) (a' := ?_) (l' := #[true, true, true, true, true, true, true, true, true, true, true, true, true, true, true, true, true, true, true, false]) (d := some 56) rfl (by kernel_rfl) (by kernel_rfl) (by kernel_rfl) (by kernel_rfl) ?_ rfl rfl ?_ ?_
            rotate_left
            · go_simp; try rfl
            rotate_left
            · simp only [Act.put]; exact rfl
            refine CalmV.take (i := 19) (v := ?_) (a' := ?_) (l' := #[true, true, true, true, true, true, true, true, true, true, true, true, true, true, true, true, true, true, true, true]) (d := some 57) rfl (by kernel_rfl) (by kernel_rfl) (by kernel_rfl) rfl ?_ rfl rfl ?_ ?_
            rotate_left
            · go_simp; try rfl
            rotate_left
            · simp only [Act.put]; exact rfl
            refine CalmV.done (by kernel_rfl) ?_
            try simp only [List.setIfInBounds_toArray, List.set_cons_succ, List.set_cons_zero]
            clear y0 y1 y2 y3 y4 z0 z1 z2 z3 z4 hp2
            replace HS := hide (sb_drew HS.out)
            replace HI' := hide (bx_drew HI'.out)
            gi_wp2
            refine ⟨((ko_drew W).trans (KeepsOthers.setCell _ _ _)).from _, ?_⟩
            exact ⟨fun _ => ⟨pre, _, rfl, by rw [CE.out, ← HN.out, ← HM.out]; exact hlt, fun e => hxy (by have := (Prod.mk.inj e).2; rw [this, HY.out, CE.out]; congr 1; rw [HK.out, ← HN.out, ← HM.out])⟩, fun h => absurd rfl h⟩
          · have q4 : (xi.c == y.c) = false := by simp [e]
            rw [e1] at y0
            rw [e2] at y1
            rw [e3] at y2
            rw [e4] at y3
            clear e e1 e2 e3 e4
            gi_wp2
            refine wp_calmV (n := 20) (by kernel_rfl) (by kernel_rfl) rfl rfl ?_
            refine CalmV.take (i := 0) (v := ?_) (a' := ?_) (l' := #[true, false, false, false, false, false, false, false, false, false, false, false, false, false, false, false, false, false, false, false]) (d := some 38) rfl (by kernel_rfl) (by kernel_rfl) (by kernel_rfl) rfl ?_ rfl rfl ?_ ?_
            rotate_left
            · go_simp; try rfl
            rotate_left
            · simp only [Act.put]; exact rfl
            refine CalmV.take (i := 1) (v := ?_) (a' := ?_) (l' := #[true, true, false, false, false, false, false, false, false, false, false, false, false, false, false, false, false, false, false, false]) (d := some 39) rfl (by kernel_rfl) (by kernel_rfl) (by kernel_rfl) rfl ?_ rfl rfl ?_ ?_
            rotate_left
            · go_simp; try rfl
            rotate_left
            · simp only [Act.put]; exact rfl
            refine CalmV.take (i := 2) (v := ?_) (a' := ?_) (l' := #[true, true, true, false, false, false, false, false, false, false, false, false, false, false, false, false, false, false, false, false]) (d := some 40) rfl (by kernel_rfl) (by kernel_rfl) (by kernel_rfl) rfl ?_ rfl rfl ?_ ?_
            rotate_left
            · go_simp; try rfl
            rotate_left
            · simp only [Act.put]; exact rfl
            refine CalmV.take (i := 3) (v := ?_) (a' := ?_) (l' := #[true, true, true, true, false, false, false, false, false, false, false, false, false, false, false, false, false, false, false, false]) (d := some 41) rfl (by kernel_rfl) (by kernel_rfl) (by kernel_rfl) rfl ?_ rfl rfl ?_ ?_
            rotate_left
            · go_simp; try rfl
            rotate_left
            · simp only [Act.put]; exact rfl
            refine CalmV.take (i := 4) (v := ?_) (a' := ?_) (l' := #[true, true, true, true, true, false, false, false, false, false, false, false, false, false, false, false, false, false, false, false]) (d := some 42) rfl (by kernel_rfl) (by kernel_rfl) (by kernel_rfl) (by kernel_rfl) ?_ rfl rfl ?_ ?_
            rotate_left
            · go_simp; try rfl
            rotate_left
            · simp only [Act.put]; exact rfl
            refine CalmV.take (i := 5) (v := ?_) (a' := ?_) (l' := #[true, true, true, true, true, true, false, false, false, false, false, false, false, false, false, false, false, false, false, false]) (d := some 43) rfl (by kernel_rfl) (by kernel_rfl) (by kernel_rfl) (by kernel_rfl) ?_ rfl rfl ?_ ?_
            rotate_left
            · go_simp; try rfl
            rotate_left
            · simp only [Act.put]; exact rfl
            refine CalmV.take (i := 6) (v := ?_) (a' := ?_) (l' := #[true, true, true, true, true, true, true, false, false, false, false, false, false, false, false, false, false, false, false, false]) (d := some 44) rfl (by kernel_rfl) (by kernel_rfl) (by kernel_rfl) (by kernel_rfl) ?_ rfl rfl ?_ ?_
            rotate_left
            · go_simp; try rfl
            rotate_left
            · simp only [Act.put]; exact rfl
            refine CalmV.take (i := 7) (v := ?_) (a' := ?_) (l' := #[true, true, true, true, true, true, true, true, false, false, false, false, false, false, false, false, false, false, false, false]) (d := some 45) rfl (by kernel_rfl) (by kernel_rfl) (by kernel_rfl) (by kernel_rfl) ?_ rfl rfl ?_ ?_
            rotate_left
            · go_simp; try rfl
            rotate_left
            · simp only [Act.put]; exact rfl
            refine CalmV.take (i := 8) (v := ?_) (a' := ?_) (l' := #[true, true, true, true, true, true, true, true, true, false, false, false, false, false, false, false, false, false, false, false]) (d := some 46) rfl (by kernel_rfl) (by kernel_rfl) (by kernel_rfl) (by kernel_rfl) ?_ rfl rfl ?_ ?_
            rotate_left
            · go_simp; try rfl
            rotate_left
            · simp only [Act.put]; exact rfl
            refine CalmV.take (i := 9) (v := ?_) (a' := ?_) (l' := #[true, true, true, true, true, true, true, true, true, true, false, false, false, false, false, false, false, false, false, false]) (d := some 47) rfl (by kernel_rfl) (by kernel_rfl) (by kernel_rfl) (by kernel_rfl) ?_ rfl rfl ?_ ?_
            rotate_left
            · go_simp; try rfl
            rotate_left
            · simp only [Act.put]; exact rfl
            refine CalmV.take (i := 10) (v := ?_) (a' := ?_) (l' := #[true, true, true, true, true, true, true, true, true, true, true, false, false, false, false, false, false, false, false, false]) (d := some 48) rfl (by kernel_rfl) (by kernel_rfl) (by kernel_rfl) rfl ?_ rfl rfl ?_ ?_
            rotate_left
            · go_simp; try rfl
            rotate_left
            · simp only [Act.put]; exact rfl
            refine CalmV.take (i := 11) (v := ?_) (a' := ?_) (l' := #[true, true, true, true, true, true, true, true, true, true, true, true, false, false, false, false, false, false, false, false]) (d := some 49) rfl (by kernel_rfl) (by kernel_rfl) (by kernel_rfl) rfl ?_ rfl rfl ?_ ?_
            rotate_left
            · go_simp; try rfl
            rotate_left
            · simp only [Act.put]; exact rfl
            refine CalmV.take (i := 12) (v := ?_) (a' := ?_) (l' := #[true, true, true, true, true, true, true, true, true, true, true, true, true, false, false, false, false, false, false, false]) (d := some 50) rfl (by kernel_rfl) (by kernel_rfl) (by kernel_rfl) (by kernel_rfl) ?_ rfl rfl ?_ ?_
            rotate_left
            · go_simp; try rfl
            rotate_left
            · simp only [Act.put]; exact rfl
            refine CalmV.take (i := 13) (v := ?_) (a' := ?_) (l' := #[true, true, true, true, true, true, true, true, true, true, true, true, true, true, false, false, false, false, false, false]) (d := some 51) rfl (by kernel_rfl) (by kernel_rfl) (by kernel_rfl) (by kernel_rfl) ?_ rfl rfl ?_ ?_
            rotate_left
            · go_simp; try rfl
            rotate_left
            · simp only [Act.put]; exact rfl
            refine CalmV.take (i := 14) (v := ?_) (a' := ?_) (l' := #[true, true, true, true, true, true, true, true, true, true, true, true, true, true, true, false, false, false, false, false]) (d := some 52) rfl (by kernel_rfl) (by kernel_rfl) (by kernel_rfl) (by kernel_rfl) ?_ rfl rfl ?_ ?_
            rotate_left
            · go_simp; try rfl
            rotate_left
            · simp only [Act.put]; exact rfl
            refine CalmV.take (i := 15) (v := ?_) (a' := ?_) (l' := #[true, true, true, true, true, true, true, true, true, true, true, true, true, true, true, true, false, false, false, false]) (d := some 53) rfl (by kernel_rfl) (by kernel_rfl) (by kernel_rfl) (by kernel_rfl) ?_ rfl rfl ?_ ?_
            rotate_left
            · go_simp; try rfl
            rotate_left
            · simp only [Act.put]; exact rfl
            refine CalmV.take (i := 16) (v := ?_) (a' := ?_) (l' := #[true, true, true, true, true, true, true, true, true, true, true, true, true, true, true, true, true, false, false, false]) (d := some 54) rfl (by kernel_rfl) (by kernel_rfl) (by kernel_rfl) (by kernel_rfl) ?_ rfl rfl ?_ ?_
            rotate_left
            · go_simp; try rfl
            rotate_left
            · simp only [Act.put]; exact rfl
            refine CalmV.take (i := 17) (v := ?_) (a' := ?_) (l' := #[true, true, true, true, true, true, true, true, true, true, true, true, true, true, true, true, true, true, false, false]) (d := some 55) rfl (by kernel_rfl) (by kernel_rfl) (by kernel_rfl) (by kernel_rfl) ?_ rfl rfl ?_ ?_
            rotate_left
            · go_simp; try rfl
            rotate_left
            · simp only [Act.put]; exact rfl
            refine CalmV.take (i := 18) (v := ?_) (a' := ?_) (l' := #[true, true, true, true, true, true, true, true, true, true, true, true, true, true, true, true, true, true, true, false]) (d := some 56) rfl (by kernel_rfl) (by kernel_rfl) (by kernel_rfl) (by kernel_rfl) ?_ rfl rfl ?_ ?_
            rotate_left
            · go_simp; try rfl
            rotate_left
            · simp only [Act.put]; exact rfl
            refine CalmV.take (i := 19) (v := ?_) (a' := ?_) (l' := #[true, true, true, true, true, true, true, true, true, true, true, true, true, true, true, true, true, true, true, true]) (d := some 57) rfl (by kernel_rfl) (by kernel_rfl) (by kernel_rfl) rfl ?_ rfl rfl ?_ ?_
            rotate_left
            · go_simp; try rfl
            rotate_left
            · simp only [Act.put]; exact rfl
            refine CalmV.done (by kernel_rfl) ?_
            try simp only [List.setIfInBounds_toArray, List.set_cons_succ, List.set_cons_zero]
            clear y0 y1 y2 y3 y4 z0 z1 z2 z3 z4 hp2
            replace HS := hide (sb_drew HS.out)
            replace HI' := hide (bx_drew HI'.out)
            gi_wp2
            refine ⟨((ko_drew W).trans (KeepsOthers.setCell _ _ _)).from _, ?_⟩
            exact ⟨fun _ => ⟨pre, _, rfl, by rw [CE.out, ← HN.out, ← HM.out]; exact hlt, fun e => hxy (by have := (Prod.mk.inj e).2; rw [this, HY.out, CE.out]; congr 1; rw [HK.out, ← HN.out, ← HM.out])⟩, fun h => absurd rfl h⟩
      · have h47 : ((kx : Int) != (nn : Int) - 1 - (m : Int)) = true := by have := HK.out; simp; omega
        gi_wp2
        refine wp_calmV (n := 20) (by kernel_rfl) (by kernel_rfl) rfl rfl ?_
        refine CalmV.take (i := 0) (v := ?_) (a' := ?_) (l' := #[true, false, false, false, false, false, false, false, false, false, false, false, false, false, false, false, false, false, false, false]) (d := some 38) rfl (by kernel_rfl) (by kernel_rfl) (by kernel_rfl) rfl ?_ rfl rfl ?_ ?_
        rotate_left
        · go_simp; try rfl
        rotate_left
        · simp only [Act.put]; exact rfl
        refine CalmV.take (i := 1) (v := ?_) (a' := ?_) (l' := #[true, true, false, false, false, false, false, false, false, false, false, false, false, false, false, false, false, false, false, false]) (d := some 39) rfl (by kernel_rfl) (by kernel_rfl) (by kernel_rfl) rfl ?_ rfl rfl ?_ ?_
        rotate_left
        · go_simp; try rfl
        rotate_left
        · simp only [Act.put]; exact rfl
        refine CalmV.take (i := 2) (v := ?_) (a' := ?_) (l' := #[true, true, true, false, false, false, false, false, false, false, false, false, false, false, false, false, false, false, false, false]) (d := some 40) rfl (by kernel_rfl) (by kernel_rfl) (by kernel_rfl) rfl ?_ rfl rfl ?_ ?_
        rotate_left
        · go_simp; try rfl
        rotate_left
        · simp only [Act.put]; exact rfl
        refine CalmV.take (i := 3) (v := ?_) (a' := ?_) (l' := #[true, true, true, true, false, false, false, false, false, false, false, false, false, false, false, false, false, false, false, false]) (d := some 41) rfl (by kernel_rfl) (by kernel_rfl) (by kernel_rfl) rfl ?_ rfl rfl ?_ ?_
        rotate_left
        · go_simp; try rfl
        rotate_left
        · simp only [Act.put]; exact rfl
        refine CalmV.take (i := 4) (v := ?_) (a' := ?_) (l' := #[true, true, true, true, true, false, false, false, false, false, false, false, false, false, false, false, false, false, false, false]) (d := some 42) rfl (by kernel_rfl) (by kernel_rfl) (by kernel_rfl) (by kernel_rfl) ?_ rfl rfl ?_ ?_
        rotate_left
        · go_simp; try rfl
        rotate_left
        · simp only [Act.put]; exact rfl
        refine CalmV.take (i := 5) (v := ?_) (a' := ?_) (l' := #[true, true, true, true, true, true, false, false, false, false, false, false, false, false, false, false, false, false, false, false]) (d := some 43) rfl (by kernel_rfl) (by kernel_rfl) (by kernel_rfl) (by kernel_rfl) ?_ rfl rfl ?_ ?_
        rotate_left
        · go_simp; try rfl
        rotate_left
        · simp only [Act.put]; exact rfl
        refine CalmV.take (i := 6) (v := ?_) (a' := ?_) (l' := #[true, true, true, true, true, true, true, false, false, false, false, false, false, false, false, false, false, false, false, false]) (d := some 44) rfl (by kernel_rfl) (by kernel_rfl) (by kernel_rfl) (by kernel_rfl) ?_ rfl rfl ?_ ?_
        rotate_left
        · go_simp; try rfl
        rotate_left
        · simp only [Act.put]; exact rfl
        refine CalmV.take (i := 7) (v := ?_) (a' := ?_) (l' := #[true, true, true, true, true, true, true, true, false, false, false, false, false, false, false, false, false, false, false, false]) (d := some 45) rfl (by kernel_rfl) (by kernel_rfl) (by kernel_rfl) (by kernel_rfl) ?_ rfl rfl ?_ ?_
        rotate_left
        · go_simp; try rfl
        rotate_left
        · simp only [Act.put]; exact rfl
        refine CalmV.take (i := 8) (v := ?_) (a' := ?_) (l' := #[true, true, true, true, true, true, true, true, true, false, false, false, false, false, false, false, false, false, false, false]) (d := some 46) rfl (by kernel_rfl) (by kernel_rfl) (by kernel_rfl) (by kernel_rfl) ?_ rfl rfl ?_ ?_
        rotate_left
        · go_simp; try rfl
        rotate_left
        · simp only [Act.put]; exact rfl
        refine CalmV.take (i := 9) (v := ?_) (a' := ?_) (l' := #[true, true, true, true, true, true, true, true, true, true, false, false, false, false, false, false, false, false, false, false]) (d := some 47) rfl (by kernel_rfl) (by kernel_rfl) (by kernel_rfl) (by kernel_rfl) ?_ rfl rfl ?_ ?_
        rotate_left
        · go_simp; try rfl
        rotate_left
        · simp only [Act.put]; exact rfl
        refine CalmV.take (i := 10) (v := ?_) (a' := ?_) (l' := #[true, true, true, true, true, true, true, true, true, true, true, false, false, false, false, false, false, false, false, false]) (d := some 48) rfl (by kernel_rfl) (by kernel_rfl) (by kernel_rfl) rfl ?_ rfl rfl ?_ ?_
        rotate_left
        · go_simp; try rfl
        rotate_left
        · simp only [Act.put]; exact rfl
        refine CalmV.take (i := 11) (v := ?_) (a' := ?_) (l' := #[true, true, true, true, true, true, true, true, true, true, true, true, false, false, false, false, false, false, false, false]) (d := some 49) rfl (by kernel_rfl) (by kernel_rfl) (by kernel_rfl) rfl ?_ rfl rfl ?_ ?_
        rotate_left
        · go_simp; try rfl
        rotate_left
        · simp only [Act.put]; exact rfl
        refine CalmV.skip (i := 12) (a' := ?_) (l' := #[true, true, true, true, true, true, true, true, true, true, true, true, true, false, false, false, false, false, false, false]) (d := some 50) rfl (by kernel_rfl) (by kernel_rfl) (by kernel_rfl) (by kernel_rfl) rfl rfl ?_ ?_
        rotate_left
        · simp only [Act.put]; exact rfl
        refine CalmV.skip (i := 13) (a' := ?_) (l' := #[true, true, true, true, true, true, true, true, true, true, true, true, true, true, false, false, false, false, false, false]) (d := some 51) rfl (by kernel_rfl) (by kernel_rfl) (by kernel_rfl) (by kernel_rfl) rfl rfl ?_ ?_
        rotate_left
        · simp only [Act.put]; exact rfl
        refine CalmV.skip (i := 14) (a' := ?_) (l' := #[true, true, true, true, true, true, true, true, true, true, true, true, true, true, true, false, false, false, false, false]) (d := some 52) rfl (by kernel_rfl) (by kernel_rfl) (by kernel_rfl) (by kernel_rfl) rfl rfl ?_ ?_
        rotate_left
        · simp only [Act.put]; exact rfl
        refine CalmV.skip (i := 15) (a' := ?_) (l' := #[true, true, true, true, true, true, true, true, true, true, true, true, true, true, true, true, false, false, false, false]) (d := some 53) rfl (by kernel_rfl) (by kernel_rfl) (by kernel_rfl) (by kernel_rfl) rfl rfl ?_ ?_
        rotate_left
        · simp only [Act.put]; exact rfl
        refine CalmV.skip (i := 16) (a' := ?_) (l' := #[true, true, true, true, true, true, true, true, true, true, true, true, true, true, true, true, true, false, false, false]) (d := some 54) rfl (by kernel_rfl) (by kernel_rfl) (by kernel_rfl) (by kernel_rfl) rfl rfl ?_ ?_
        rotate_left
        · simp only [Act.put]; exact rfl
        refine CalmV.skip (i := 17) (a' := ?_) (l' := #[true, true, true, true, true, true, true, true, true, true, true, true, true, true, true, true, true, true, false, false]) (d := some 55) rfl (by kernel_rfl) (by kernel_rfl) (by kernel_rfl) (by kernel_rfl) rfl rfl ?_ ?_
        rotate_left
        · simp only [Act.put]; exact rfl
        refine CalmV.skip (i := 18) (a' := ?_) (l' := #[true, true, true, true, true, true, true, true, true, true, true, true, true, true, true, true, true, true, true, false]) (d := some 56) rfl (by kernel_rfl) (by kernel_rfl) (by kernel_rfl) (by kernel_rfl) rfl rfl ?_ ?_
        rotate_left
        · simp only [Act.put]; exact rfl
        refine CalmV.take (i := 19) (v := ?_) (a' := ?_) (l' := #[true, true, true, true, true, true, true, true, true, true, true, true, true, true, true, true, true, true, true, true]) (d := some 57) rfl (by kernel_rfl) (by kernel_rfl) (by kernel_rfl) rfl ?_ rfl rfl ?_ ?_
        rotate_left
        · go_simp; try rfl
        rotate_left
        · simp only [Act.put]; exact rfl
        refine CalmV.done (by kernel_rfl) ?_
        try simp only [List.setIfInBounds_toArray, List.set_cons_succ, List.set_cons_zero]
        clear y0 y1 y2 y3 y4 z0 z1 z2 z3 z4 hp2
        replace HS := hide (sb_drew HS.out)
        replace HI' := hide (bx_drew HI'.out)
        gi_wp2
        refine ⟨((ko_drew W).trans (KeepsOthers.setCell _ _ _)).from _, ?_⟩
        exact ⟨fun _ => ⟨pre, _, rfl, by rw [CE.out, ← HN.out, ← HM.out]; exact hlt, fun e => h1 (by have := (Prod.mk.inj e).1; rw [this, HK.out, CE.out, ← HN.out, ← HM.out])⟩, fun h => absurd rfl h⟩
    case nx01 =>
      rintro M01 W01 v hD hv hi hS hK
      have HS := hide hS
      have HI' := hide hi
      have KM01 := hide hK
      have GM01 := hide hD
      have ORM01 : Hid (R < M01) := hide (by have := BRI01.out; have := LI01.out; omega)
      have OWM01 : Hid (w.heap.size ≤ M01) := hide (by have := PXI01.out; have := WPX.out; have := LI01.out; omega)
      clear hS hi hK hD
      have SZ := hide HS.out.base.size
      replace HW := hide (HS.out.below HW.out (by have := LWI01.out; omega) (by have := HW.out.size; omega))
      replace BN := hide (HS.out.boxed BN.out (by have := BNI01.out; omega))
      replace BD := hide (HS.out.boxed BD.out (by have := BDI01.out; omega))
      replace BE := hide (HS.out.boxed BE.out (by have := BEI01.out; omega))
      replace BR := hide (HS.out.boxed BR.out (by have := BRI01.out; omega))
      replace PX := hide (HS.out.box4 PX.out (by have := PXI01.out; omega))
      replace HB := hide (HS.out.below HB.out (by have := PXI01.out; have := WPX.out; omega) (by have := HB.out.size; omega))
      have i0 := HI'.out.cell
      have n0 := BN.out.cell
      have d0 := BD.out.cell
      have e0 := BE.out.cell
      by_cases hvn : v = (cs.length : Nat)
      · subst hvn
        clear hv
        go_upto_region 14 with fail
        clear i0 n0 d0 e0
        have GN := hide BN.out.lt
        have GE := hide BE.out.lt
        have GR := hide BR.out.lt
        have GP := hide (Box4.lt PX.out)
        have GW := hide HW.out.size
        have GKM01 := hide (Array.getElem?_eq_some_iff.1 KM01.out).1
        have hb := below_alloc W01 (.cells #[.int .i64 0] 3)
        replace BD := hide (Boxed.new W01 3 (.int .i64 0))
        replace HW := hide (HW.out.trans (hb.mono HW.out.size))
        replace BN := hide (boxed_step BN.out hb)
        replace KM01 := hide ((hb.block _ (Array.getElem?_eq_some_iff.1 KM01.out).1).trans KM01.out)
        clear HS HI'
        replace PX := hide (PX.out.step hb)
        replace BE := hide (boxed_step BE.out hb)
        replace BR := hide (boxed_step BR.out hb)
        replace HB := hide (HB.out.trans (hb.mono HB.out.size))
        clear hb
        generalize W01.alloc (.cells #[.int .i64 0] 3) = U01e at *
        obtain ⟨D01e, hD⟩ : ∃ D, D = W01.heap.size := ⟨_, rfl⟩
        have HD := hide hD
        rw [← hD] at BD ⊢
        clear hD
        have d0 := BD.out.cell
        have df := BD.out.frozen
        go_wp2
        rw [rounds_succ]
        clear d0 df
        have HS := hide ((SameBut.refl D01e U01e).set (.int .i64 1))
        replace BD := hide (BD.out.set (.int .i64 1))
        replace HW := hide (HS.out.below HW.out (by have := HD.out; have := GW.out; omega) (by have := HW.out.size; omega))
        replace BN := hide (HS.out.boxed BN.out (by have := HD.out; have := GN.out; omega))
        replace BE := hide (HS.out.boxed BE.out (by have := HD.out; have := GE.out; omega))
        replace BR := hide (HS.out.boxed BR.out (by have := HD.out; have := GR.out; omega))
        replace PX := hide (HS.out.box4 PX.out (by have := HD.out; have := GP.out; omega))
        replace HB := hide (HS.out.below HB.out (by have := HD.out; have := GP.out; have := WPX.out; omega) (by have := HB.out.size; omega))
        replace KM01 := hide ((HS.out.block _ (Array.getElem?_eq_some_iff.1 KM01.out).1 (by have := HD.out; have := GKM01.out; omega)).trans KM01.out)
        clear HS
        generalize U01e.setCell ⟨D01e, 0, none⟩ (.int .i64 1) = T01e at *
        have d0 := BD.out.cell
        go_upto_region 16 with fail
        clear d0
        have BN0 := hide BN.out.lt
        have BD0 := hide BD.out.lt
        have BE0 := hide BE.out.lt
        have BR0 := hide BR.out.lt
        have PX0 := hide PX.out.lt
        have HW0 := hide HW.out.size
        have M0M01 := hide (Array.getElem?_eq_some_iff.1 KM01.out).1
        have hb := below_alloc T01e (.cells #[.int .i64 0] 3)
        have BI := hide (Boxed.new T01e 3 (.int .i64 0))
        replace HW := hide (HW.out.trans (hb.mono HW.out.size))
        replace BN := hide (boxed_step BN.out hb)
        replace BD := hide (boxed_step BD.out hb)
        replace KM01 := hide ((hb.block _ (Array.getElem?_eq_some_iff.1 KM01.out).1).trans KM01.out)
        replace PX := hide (PX.out.step hb)
        replace BE := hide (boxed_step BE.out hb)
        replace BR := hide (boxed_step BR.out hb)
        replace HB := hide (HB.out.trans (hb.mono HB.out.size))
        clear hb
        generalize T01e.alloc (.cells #[.int .i64 0] 3) = V12 at *
        obtain ⟨I12, hI⟩ : ∃ I, I = T01e.heap.size := ⟨_, rfl⟩
        have HI12 := hide hI
        rw [← hI] at BI ⊢
        clear hI
        have BNI12 : Hid (G < I12) := hide (by have := HI12.out; have := BN0.out; omega)
        have BDI12 : Hid (D01e < I12) := hide (by have := HI12.out; have := BD0.out; omega)
        have BEI12 : Hid (E < I12) := hide (by have := HI12.out; have := BE0.out; omega)
        have BRI12 : Hid (R < I12) := hide (by have := HI12.out; have := BR0.out; omega)
        have PXI12 : Hid (B < I12) := hide (by have := HI12.out; have := PX0.out; omega)
        have LWI12 : Hid (w4.heap.size ≤ I12) := hide (by have := HI12.out; have := HW0.out; omega)
        have MIM0112 : Hid (M01 < I12) := hide (by have := HI12.out; have := M0M01.out; omega)
        have LB := hide (Box4.lt PX.out)
        have LI12 : Hid (I12 < V12.heap.size) := hide BI.out.lt
        go_wp2_with fail
        refine (wpIn_wide (n := 3)).1 ?_
        refine range_any False (stop := stop) (cs := cs) (by omega) (gf := 40) (lb := #[.pointer (some ⟨bx, 0, none⟩)]) rfl (enters_of Tryd.func40 (by kernel_rfl) rfl)
          (back_stops 2 (by omega) bx lo w4.heap.size lo vb cs (by have := CL.out; omega) w4 OW.out (Nat.le_refl _) rfl lo0.out X2.out CX.out) Keeps.trans
          (fun W l o o' hl _ _ _ k _ h2 => by rw [World.putObj_heap_other (by have := HW.out.size; omega)]) HW.out (fun _ => rfl)
          BI.out ?assign12 ?body12 ?nx12
        case assign12 =>
          intro l pre x W K hI hK
          obtain ⟨hi, hS⟩ := hI
          obtain ⟨kx, xi⟩ := x
          unfold encN
          simp only [List.zip_toArray, List.zip_cons_cons, List.zip_nil_right, List.foldl_toArray', List.size_toArray, List.length_cons, List.length_nil, List.foldl_cons, List.foldl_nil, List.setIfInBounds_toArray, List.set_cons_succ, List.set_cons_zero]
          gi_wp2
          have b5 := Box5.new W 36 xi
          have ks := KeepsOthers.alloc W (.cells xi.vals 36)
          have kp := keeps_alloc (lo := lo) (hi := w4.heap.size) W (.cells xi.vals 36) (by have := hS.base.size; have := HW.out.size; omega)
          have hi' := boxed_step hi (below_alloc W (.cells xi.vals 36))
          have hS' := hS.alloc (.cells xi.vals 36)
          unfold Ins.vals at b5 ks kp hi' hS'
          generalize W.alloc (.cells #[.int .i64 xi.op, .int .i64 xi.to, .int .i64 xi.a, .int .i64 xi.b, .int .i64 xi.c] 36) = W' at *
          generalize W.heap.size = gx at *
          exact hK _ _ (ks.from _) kp ⟨hi', hS'⟩ ⟨gx, by simp only [fr, encN, List.zip_toArray, List.zip_cons_cons, List.zip_nil_right, List.foldl_toArray', List.size_toArray, List.length_cons, List.length_nil, List.foldl_cons, List.foldl_nil, List.setIfInBounds_toArray, List.set_cons_succ, List.set_cons_zero], b5⟩
        case body12 =>
          rintro l pre x gx W ⟨hi, hS⟩ hbx hlt
          rw [tb_length] at hlt
          obtain ⟨kx, xi⟩ := x
          unfold fr encN
          dsimp only at hbx
          simp only [List.zip_toArray, List.zip_cons_cons, List.zip_nil_right, List.foldl_toArray', List.size_toArray, List.length_cons, List.length_nil, List.foldl_cons, List.foldl_nil, List.setIfInBounds_toArray, List.set_cons_succ, List.set_cons_zero]
          have hcI := hi.cell
          have hfI := hi.frozen
          have hcN := (hS.boxed BN.out (by have := BNI12.out; omega)).cell
          have hcD := (hS.boxed BD.out (by have := BDI12.out; omega)).cell
          have hcE := (hS.boxed BE.out (by have := BEI12.out; omega)).cell
          have hcR := (hS.boxed BR.out (by have := BRI12.out; omega)).cell
          have hfR := (hS.boxed BR.out (by have := BRI12.out; omega)).frozen
          have hp2 := (hS.box4 PX.out (by have := PXI12.out; omega)).cell2
          have y0 := hbx.cells.cell0
          have y1 := hbx.cells.cell1
          have y2 := hbx.cells.cell2
          have y3 := hbx.cells.cell3
          have y4 := hbx.cells.cell4
          simp only [Nat.zero_add] at y1 y2 y3 y4
          have HBW := hide (hS.below HB.out (by have := PXI12.out; have := WPX.out; omega) (by have := HB.out.size; omega))
          obtain ⟨k, hk⟩ : ∃ k : Nat, k = cs.length - 1 - pre.length := ⟨_, rfl⟩
          have hkl : k < p.code.length := by rw [← CE.out]; omega
          obtain ⟨b, off, hca, k1⟩ := KC0.out.at hkl
          replace k1 := k1.step HBW.out
          rw [hca] at hp2
          obtain ⟨y, hy⟩ : ∃ y, y = cd p.code k := ⟨_, rfl⟩
          rw [← hy] at k1
          have z0 := k1.cell0
          have z1 := k1.cell1
          have z2 := k1.cell2
          have z3 := k1.cell3
          have z4 := k1.cell4
          clear k1 hca hbx
          obtain ⟨m, hm⟩ : ∃ m, m = pre.length := ⟨_, rfl⟩
          rw [← hm] at hcI hk hlt
          obtain ⟨nn, hnn⟩ : ∃ nn, nn = p.code.length := ⟨_, rfl⟩
          rw [CE.out, ← hnn] at hk hlt
          rw [CE.out, ← hnn] at hcN
          rw [← hnn] at hkl hp2
          have nb : nn ≤ 400 := by rw [hnn]; exact L1.out.1
          have HM := hide hm
          have HN := hide hnn
          have HY := hide hy
          have HK := hide hk
          have HS := hide hS
          have HI' := hide hi
          clear hm hnn hy hS hi hk
          have nD : D01e ≠ I12 := by have := BDI12.out; omega
          have nE : E ≠ I12 := by have := BEI12.out; omega
          have g0 : ¬ (nn : Int) ≤ (m : Int) := by omega
          have g1 : ¬ nn ≤ m := by omega
          have u1 : IntKind.i64.wrap ((nn : Int) - 1) = (nn : Int) - 1 := by rw [IntKind.wrap_i64]; omega
          have u2 : IntKind.i64.wrap ((nn : Int) - 1 - (m : Int)) = (nn : Int) - 1 - (m : Int) := by rw [IntKind.wrap_i64]; omega
          by_cases h1 : kx = k
          · subst h1
            have h47 : ((kx : Int) != (nn : Int) - 1 - (m : Int)) = false := by have := HK.out; simp; omega
            by_cases hxy : xi = y
            · subst hxy
              gi_wp2
              refine wp_calmV (n := 20) (by kernel_rfl) (by kernel_rfl) rfl rfl ?_
              refine CalmV.take (i := 0) (v := ?_) (a' := ?_) (l' := #[true, false, false, false, false, false, false, false, false, false, false, false, false, false, false, false, false, false, false, false]) (d := some 38) rfl (by kernel_rfl) (by kernel_rfl) (by kernel_rfl) rfl ?_ rfl rfl ?_ ?_
              rotate_left
              · go_simp; try rfl
              rotate_left
              · simp only [Act.put]; exact rfl
              refine CalmV.take (i := 1) (v := ?_) (a' := ?_) (l' := #[true, true, false, false, false, false, false, false, false, false, false, false, false, false, false, false, false, false, false, false]) (d := some 39) rfl (by kernel_rfl) (by kernel_rfl) (by kernel_rfl) rfl ?_ rfl rfl ?_ ?_
              rotate_left
              · go_simp; try rfl
              rotate_left
              · simp only [Act.put]; exact rfl
              refine CalmV.take (i := 2) (v := ?_) (a' := ?_) (l' := #[true, true, true, false, false, false, false, false, false, false, false, false, false, false, false, false, false, false, false, false]) (d := some 40) rfl (by kernel_rfl) (by kernel_rfl) (by kernel_rfl) rfl ?_ rfl rfl ?_ ?_
              rotate_left
              · go_simp; try rfl
              rotate_left
              · simp only [Act.put]; exact rfl
              refine CalmV.take (i := 3) (v := ?_) (a' := ?_) (l' := #[true, true, true, true, false, false, false, false, false, false, false, false, false, false, false, false, false, false, false, false]) (d := some 41) rfl (by kernel_rfl) (by kernel_rfl) (by kernel_rfl) rfl ?_ rfl rfl ?_ ?_
              rotate_left
              · go_simp; try rfl
              rotate_left
              · simp only [Act.put]; exact rfl
              refine CalmV.take (i := 4) (v := ?_) (a' := ?_) (l' := #[true, true, true, true, true, false, false, false, false, false, false, false, false, false, false, false, false, false, false, false]) (d := some 42) rfl (by kernel_rfl) (by kernel_rfl) (by kernel_rfl) (by kernel_rfl) ?_ rfl rfl ?_ ?_
              rotate_left
              · go_simp; try rfl
              rotate_left
              · simp only [Act.put]; exact rfl
              refine CalmV.take (i := 5) (v := ?_) (a' := ?_) (l' := #[true, true, true, true, true, true, false, false, false, false, false, false, false, false, false, false, false, false, false, false]) (d := some 43) rfl (by kernel_rfl) (by kernel_rfl) (by kernel_rfl) (by kernel_rfl) ?_ rfl rfl ?_ ?_
              rotate_left
              · go_simp; try rfl
              rotate_left
              · simp only [Act.put]; exact rfl
              refine CalmV.take (i := 6) (v := ?_) (a' := ?_) (l' := #[true, true, true, true, true, true, true, false, false, false, false, false, false, false, false, false, false, false, false, false]) (d := some 44) rfl (by kernel_rfl) (by kernel_rfl) (by kernel_rfl) (by kernel_rfl) ?_ rfl rfl ?_ ?_
              rotate_left
              · go_simp; try rfl
              rotate_left
              · simp only [Act.put]; exact rfl
              refine CalmV.take (i := 7) (v := ?_) (a' := ?_) (l' := #[true, true, true, true, true, true, true, true, false, false, false, false, false, false, false, false, false, false, false, false]) (d := some 45) rfl (by kernel_rfl) (by kernel_rfl) (by kernel_rfl) (by kernel_rfl) ?_ rfl rfl ?_ ?_
              rotate_left
              · go_simp; try rfl
              rotate_left
              · simp only [Act.put]; exact rfl
              refine CalmV.take (i := 8) (v := ?_) (a' := ?_) (l' := #[true, true, true, true, true, true, true, true, true, false, false, false, false, false, false, false, false, false, false, false]) (d := some 46) rfl (by kernel_rfl) (by kernel_rfl) (by kernel_rfl) (by kernel_rfl) ?_ rfl rfl ?_ ?_
              rotate_left
              · go_simp; try rfl
              rotate_left
              · simp only [Act.put]; exact rfl
              refine CalmV.take (i := 9) (v := ?_) (a' := ?_) (l' := #[true, true, true, true, true, true, true, true, true, true, false, false, false, false, false, false, false, false, false, false]) (d := some 47) rfl (by kernel_rfl) (by kernel_rfl) (by kernel_rfl) (by kernel_rfl) ?_ rfl rfl ?_ ?_
              rotate_left
              · go_simp; try rfl
              rotate_left
              · simp only [Act.put]; exact rfl
              refine CalmV.take (i := 10) (v := ?_) (a' := ?_) (l' := #[true, true, true, true, true, true, true, true, true, true, true, false, false, false, false, false, false, false, false, false]) (d := some 48) rfl (by kernel_rfl) (by kernel_rfl) (by kernel_rfl) rfl ?_ rfl rfl ?_ ?_
              rotate_left
              · go_simp; try rfl
              rotate_left
              · simp only [Act.put]; exact rfl
              refine CalmV.take (i := 11) (v := ?_) (a' := ?_) (l' := #[true, true, true, true, true, true, true, true, true, true, true, true, false, false, false, false, false, false, false, false]) (d := some 49) rfl (by kernel_rfl) (by kernel_rfl) (by kernel_rfl) rfl ?_ rfl rfl ?_ ?_
              rotate_left
              · go_simp; try rfl
              rotate_left
              · simp only [Act.put]; exact rfl
              refine CalmV.take (i := 12) (v := ?_) (a' := ?_) (l' := #[true, true, true, true, true, true, true, true, true, true, true, true, true, false, false, false, false, false, false, false]) (d := some 50) rfl (by kernel_rfl) (by kernel_rfl) (by kernel_rfl) (by kernel_rfl) ?_ rfl rfl ?_ ?_
              rotate_left
              · go_simp; try rfl
              rotate_left
              · simp only [Act.put]; exact rfl
              refine CalmV.take (i := 13) (v := ?_) (a' := ?_) (l' := #[true, true, true, true, true, true, true, true, true, true, true, true, true, true, false, false, false, false, false, false]) (d := some 51) rfl (by kernel_rfl) (by kernel_rfl) (by kernel_rfl) (by kernel_rfl) ?_ rfl rfl ?_ ?_
              rotate_left
              · go_simp; try rfl
              rotate_left
              · simp only [Act.put]; exact rfl
              refine CalmV.take (i := 14) (v := ?_) (a' := ?_) (l' := #[true, true, true, true, true, true, true, true, true, true, true, true, true, true, true, false, false, false, false, false]) (d := some 52) rfl (by kernel_rfl) (by kernel_rfl) (by kernel_rfl) (by kernel_rfl) ?_ rfl rfl ?_ ?_
              rotate_left
              · go_simp; try rfl
              rotate_left
              · simp only [Act.put]; exact rfl
              refine CalmV.take (i := 15) (v := ?_) (a' := ?_) (l' := #[true, true, true, true, true, true, true, true, true, true, true, true, true, true, true, true, false, false, false, false]) (d := some 53) rfl (by kernel_rfl) (by kernel_rfl) (by kernel_rfl) (by kernel_rfl) ?_ rfl rfl ?_ ?_
              rotate_left
              · go_simp; try rfl
              rotate_left
              · simp only [Act.put]; exact rfl
              refine CalmV.take (i := 16) (v := ?_) (a' := ?_) (l' := #[true, true, true, true, true, true, true, true, true, true, true, true, true, true, true, true, true, false, false, false]) (d := some 54) rfl (by kernel_rfl) (by kernel_rfl) (by kernel_rfl) (by kernel_rfl) ?_ rfl rfl ?_ ?_
              rotate_left
              · go_simp; try rfl
              rotate_left
              · simp only [Act.put]; exact rfl
              refine CalmV.take (i := 17) (v := ?_) (a' := ?_) (l' := #[true, true, true, true, true, true, true, true, true, true, true, true, true, true, true, true, true, true, false, false]) (d := some 55) rfl (by kernel_rfl) (by kernel_rfl) (by kernel_rfl) (by kernel_rfl) ?_ rfl rfl ?_ ?_
              rotate_left
              · go_simp; try rfl
              rotate_left
              · simp only [Act.put]; exact rfl
              refine CalmV.take (i := 18) (v := ?_) (a' := ?_) (l' := #[true, true, true, true, true, true, true, true, true, true, true, true, true, true, true, true, true, true, true, false]) (d := some 56) rfl (by kernel_rfl) (by kernel_rfl) (by kernel_rfl) (by kernel_rfl) ?_ rfl rfl ?_ ?_
              rotate_left
              · go_simp; try rfl
              rotate_left
              · simp only [Act.put]; exact rfl
              refine CalmV.take (i := 19) (v := ?_) (a' := ?_) (l' := #[true, true, true, true, true, true, true, true, true, true, true, true, true, true, true, true, true, true, true, true]) (d := some 57) rfl (by kernel_rfl) (by kernel_rfl) (by kernel_rfl) rfl ?_ rfl rfl ?_ ?_
              rotate_left
              · go_simp; try rfl
              rotate_left
              · simp only [Act.put]; exact rfl
              refine CalmV.done (by kernel_rfl) ?_
              try simp only [List.setIfInBounds_toArray, List.set_cons_succ, List.set_cons_zero]
              clear y0 y1 y2 y3 y4 z0 z1 z2 z3 z4 hp2
              replace HS := hide (sb_drew HS.out)
              replace HI' := hide (bx_drew HI'.out)
              gi_wp2
              exact ⟨((ko_drew W).trans (KeepsOthers.setCell _ _ _)).from _, (keeps_drew W).trans (((SameBut.refl _ W.drew).set _).keeps (by have := LWI12.out; omega) (by have := HS.out.base.size; have := HW.out.size; omega)), by rw [List.length_append, List.length_singleton, ← HM.out]; exact HI'.out.set _, HS.out.set _⟩
            · rcases ins_ne hxy with e | ⟨e1, e⟩ | ⟨e1, e2, e⟩ | ⟨e1, e2, e3, e⟩ | ⟨e1, e2, e3, e4, e⟩
              · have q0 : (xi.op == y.op) = false := by simp [e]
                clear e
                gi_wp2
                refine wp_calmV (n := 20) (by kernel_rfl) (by kernel_rfl) rfl rfl ?_
                refine CalmV.take (i := 0) (v := ?_) (a' := ?_) (l' := #[true, false, false, false, false, false, false, false, false, false, false, false, false, false, false, false, false, false, false, false]) (d := some 38) rfl (by kernel_rfl) (by kernel_rfl) (by kernel_rfl) rfl ?_ rfl rfl ?_ ?_
                rotate_left
                · go_simp; try rfl
                rotate_left
                · simp only [Act.put]; exact rfl
                refine CalmV.take (i := 1) (v := ?_) (a' := ?_) (l' := #[true, true, false, false, false, false, false, false, false, false, false, false, false, false, false, false, false, false, false, false]) (d := some 39) rfl (by kernel_rfl) (by kernel_rfl) (by kernel_rfl) rfl ?_ rfl rfl ?_ ?_
                rotate_left
                · go_simp; try rfl
                rotate_left
                · simp only [Act.put]; exact rfl
                refine CalmV.take (i := 2) (v := ?_) (a' := ?_) (l' := #[true, true, true, false, false, false, false, false, false, false, false, false, false, false, false, false, false, false, false, false]) (d := some 40) rfl (by kernel_rfl) (by kernel_rfl) (by kernel_rfl) rfl ?_ rfl rfl ?_ ?_
                rotate_left
                · go_simp; try rfl
                rotate_left
                · simp only [Act.put]; exact rfl
                refine CalmV.take (i := 3) (v := ?_) (a' := ?_) (l' := #[true, true, true, true, false, false, false, false, false, false, false, false, false, false, false, false, false, false, false, false]) (d := some 41) rfl (by kernel_rfl) (by kernel_rfl) (by kernel_rfl) rfl ?_ rfl rfl ?_ ?_
                rotate_left
                · go_simp; try rfl
                rotate_left
                · simp only [Act.put]; exact rfl
                refine CalmV.take (i := 4) (v := ?_) (a' := ?_) (l' := #[true, true, true, true, true, false, false, false, false, false, false, false, false, false, false, false, false, false, false, false]) (d := some 42) rfl (by kernel_rfl) (by kernel_rfl) (by kernel_rfl) (by kernel_rfl) ?_ rfl rfl ?_ ?_
                rotate_left
                · go_simp; try rfl
                rotate_left
                · simp only [Act.put]; exact rfl
                refine CalmV.take (i := 5) (v := ?_) (a' := ?_) (l' := #[true, true, true, true, true, true, false, false, false, false, false, false, false, false, false, false, false, false, false, false]) (d := some 43) rfl (by kernel_rfl) (by kernel_rfl) (by kernel_rfl) (by kernel_rfl) ?_ rfl rfl ?_ ?_
                rotate_left
                · go_simp; try rfl
                rotate_left
                · simp only [Act.put]; exact rfl
                refine CalmV.take (i := 6) (v := ?_) (a' := ?_) (l' := #[true, true, true, true, true, true, true, false, false, false, false, false, false, false, false, false, false, false, false, false]) (d := some 44) rfl (by kernel_rfl) (by kernel_rfl) (by kernel_rfl) (by kernel_rfl) ?_ rfl rfl ?_ ?_
                rotate_left
                · go_simp; try rfl
                rotate_left
                · simp only [Act.put]; exact rfl
                refine CalmV.take (i := 7) (v := ?_) (a' := ?_) (l' := #[true, true, true, true, true, true, true, true, false, false, false, false, false, false, false, false, false, false, false, false]) (d := some 45) rfl (by kernel_rfl) (by kernel_rfl) (by kernel_rfl) (by kernel_rfl) ?_ rfl rfl ?_ ?_
                rotate_left
                · go_simp; try rfl
                rotate_left
                · simp only [Act.put]; exact rfl
                refine CalmV.take (i := 8) (v := ?_) (a' := ?_) (l' := #[true, true, true, true, true, true, true, true, true, false, false, false, false, false, false, false, false, false, false, false]) (d := some 46) rfl (by kernel_rfl) (by kernel_rfl) (by kernel_rfl) (by kernel_rfl) ?_ rfl rfl ?_ ?_
                rotate_left
                · go_simp; try rfl
                rotate_left
                · simp only [Act.put]; exact rfl
                refine CalmV.take (i := 9) (v := ?_) (a' := ?_) (l' := #[true, true, true, true, true, true, true, true, true, true, false, false, false, false, false, false, false, false, false, false]) (d := some 47) rfl (by kernel_rfl) (by kernel_rfl) (by kernel_rfl) (by kernel_rfl) ?_ rfl rfl ?_ ?_
                rotate_left
                · go_simp; try rfl
                rotate_left
                · simp only [Act.put]; exact rfl
                refine CalmV.take (i := 10) (v := ?_) (a' := ?_) (l' := #[true, true, true, true, true, true, true, true, true, true, true, false, false, false, false, false, false, false, false, false]) (d := some 48) rfl (by kernel_rfl) (by kernel_rfl) (by kernel_rfl) rfl ?_ rfl rfl ?_ ?_
                rotate_left
                · go_simp; try rfl
                rotate_left
                · simp only [Act.put]; exact rfl
                refine CalmV.take (i := 11) (v := ?_) (a' := ?_) (l' := #[true, true, true, true, true, true, true, true, true, true, true, true, false, false, false, false, false, false, false, false]) (d := some 49) rfl (by kernel_rfl) (by kernel_rfl) (by kernel_rfl) rfl ?_ rfl rfl ?_ ?_
                rotate_left
                · go_simp; try rfl
                rotate_left
                · simp only [Act.put]; exact rfl
                refine CalmV.take (i := 12) (v := ?_) (a' := ?_) (l' := #[true, true, true, true, true, true, true, true, true, true, true, true, true, false, false, false, false, false, false, false]) (d := some 50) rfl (by kernel_rfl) (by kernel_rfl) (by kernel_rfl) (by kernel_rfl) ?_ rfl rfl ?_ ?_
                rotate_left
                · go_simp; try rfl
                rotate_left
                · simp only [Act.put]; exact rfl
                refine CalmV.take (i := 13) (v := ?_) (a' := ?_) (l' := #[true, true, true, true, true, true, true, true, true, true, true, true, true, true, false, false, false, false, false, false]) (d := some 51) rfl (by kernel_rfl) (by kernel_rfl) (by kernel_rfl) (by kernel_rfl) ?_ rfl rfl ?_ ?_
                rotate_left
                · go_simp; try rfl
                rotate_left
                · simp only [Act.put]; exact rfl
                refine CalmV.take (i := 14) (v := ?_) (a' := ?_) (l' := #[true, true, true, true, true, true, true, true, true, true, true, true, true, true, true, false, false, false, false, false]) (d := some 52) rfl (by kernel_rfl) (by kernel_rfl) (by kernel_rfl) (by kernel_rfl) ?_ rfl rfl ?_ ?_
                rotate_left
                · go_simp; try rfl
                rotate_left
                · simp only [Act.put]; exact rfl
                refine CalmV.take (i := 15) (v := ?_) (a' := ?_) (l' := #[true, true, true, true, true, true, true, true, true, true, true, true, true, true, true, true, false, false, false, false]) (d := some 53) rfl (by kernel_rfl) (by kernel_rfl) (by kernel_rfl) (by kernel_rfl) ?_ rfl rfl ?_ ?_
                rotate_left
                · go_simp; try rfl
                rotate_left
                · simp only [Act.put]; exact rfl
                refine CalmV.take (i := 16) (v := ?_) (a' := ?_) (l' := #[true, true, true, true, true, true, true, true, true, true, true, true, true, true, true, true, true, false, false, false]) (d := some 54) rfl (by kernel_rfl) (by kernel_rfl) (by kernel_rfl) (by kernel_rfl) ?_ rfl rfl ?_ ?_
                rotate_left
                · go_simp; try rfl
                rotate_left
                · simp only [Act.put]; exact rfl
                refine CalmV.take (i := 17) (v := ?_) (a' := ?_) (l' := #[true, true, true, true, true, true, true, true, true, true, true, true, true, true, true, true, true, true, false, false]) (d := some 55) rfl (by kernel_rfl) (by kernel_rfl) (by kernel_rfl) (by kernel_rfl) ?_ rfl rfl ?_ ?_
                rotate_left
                · go_simp; try rfl
                rotate_left
                · simp only [Act.put]; exact rfl
                refine CalmV.take (i := 18) (v := ?_) (a' := ?_) (l' := #[true, true, true, true, true, true, true, true, true, true, true, true, true, true, true, true, true, true, true, false]) (d := some 56) rfl (by kernel_rfl) (by kernel_rfl) (by kernel_rfl) (by kernel_rfl) ?_ rfl rfl ?_ ?_
                rotate_left
                · go_simp; try rfl
                rotate_left
                · simp only [Act.put]; exact rfl
                refine CalmV.take (i := 19) (v := ?_) (a' := ?_) (l' := #[true, true, true, true, true, true, true, true, true, true, true, true, true, true, true, true, true, true, true, true]) (d := some 57) rfl (by kernel_rfl) (by kernel_rfl) (by kernel_rfl) rfl ?_ rfl rfl ?_ ?_
                rotate_left
                · go_simp; try rfl
                rotate_left
                · simp only [Act.put]; exact rfl
                refine CalmV.done (by kernel_rfl) ?_
                try simp only [List.setIfInBounds_toArray, List.set_cons_succ, List.set_cons_zero]
                clear y0 y1 y2 y3 y4 z0 z1 z2 z3 z4 hp2
                replace HS := hide (sb_drew HS.out)
                replace HI' := hide (bx_drew HI'.out)
                gi_wp2
                refine ⟨((ko_drew W).trans (KeepsOthers.setCell _ _ _)).from _, ?_⟩
                exact ⟨fun _ => ⟨pre, _, rfl, by rw [CE.out, ← HN.out, ← HM.out]; exact hlt, fun e => hxy (by have := (Prod.mk.inj e).2; rw [this, HY.out, CE.out]; congr 1; rw [HK.out, ← HN.out, ← HM.out])⟩, fun h => absurd rfl h⟩
              · have q1 : (xi.to == y.to) = false := by simp [e]
                rw [e1] at y0
                clear e e1
                gi_wp2
                refine wp_calmV (n := 20) (by kernel_rfl) (by kernel_rfl) rfl rfl ?_
                refine CalmV.take (i := 0) (v := ?_) (a' := ?_) (l' := #[true, false, false, false, false, false, false, false, false, false, false, false, false, false, false, false, false, false, false, false]) (d := some 38) rfl (by kernel_rfl) (by kernel_rfl) (by kernel_rfl) rfl ?_ rfl rfl ?_ ?_
                rotate_left
                · go_simp; try rfl
                rotate_left
                · simp only [Act.put]; exact rfl
                refine CalmV.take (i := 1) (v := ?_) (a' := ?_) (l' := #[true, true, false, false, false, false, false, false, false, false, false, false, false, false, false, false, false, false, false, false]) (d := some 39) rfl (by kernel_rfl) (by kernel_rfl) (by kernel_rfl) rfl ?_ rfl rfl ?_ ?_
                rotate_left
                · go_simp; try rfl
                rotate_left
                · simp only [Act.put]; exact rfl
                refine CalmV.take (i := 2) (v := ?_) (a' := ?_) (l' := #[true, true, true, false, false, false, false, false, false, false, false, false, false, false, false, false, false, false, false, false]) (d := some 40) rfl (by kernel_rfl) (by kernel_rfl) (by kernel_rfl) rfl ?_ rfl rfl ?_ ?_
                rotate_left
                · go_simp; try rfl
                rotate_left
                · simp only [Act.put]; exact rfl
                refine CalmV.take (i := 3) (v := ?_) (a' := ?_) (l' := #[true, true, true, true, false, false, false, false, false, false, false, false, false, false, false, false, false, false, false, false]) (d := some 41) rfl (by kernel_rfl) (by kernel_rfl) (by kernel_rfl) rfl ?_ rfl rfl ?_ ?_
                rotate_left
                · go_simp; try rfl
                rotate_left
                · simp only [Act.put]; exact rfl
                refine CalmV.take (i := 4) (v := ?_) (a' := ?_) (l' := #[true, true, true, true, true, false, false, false, false, false, false, false, false, false, false, false, false, false, false, false]) (d := some 42) rfl (by kernel_rfl) (by kernel_rfl) (by kernel_rfl) (by kernel_rfl) ?_ rfl rfl ?_ ?_
                rotate_left
                · go_simp; try rfl
                rotate_left
                · simp only [Act.put]; exact rfl
                refine CalmV.take (i := 5) (v := ?_) (a' := ?_) (l' := #[true, true, true, true, true, true, false, false, false, false, false, false, false, false, false, false, false, false, false, false]) (d := some 43) rfl (by kernel_rfl) (by kernel_rfl) (by kernel_rfl) (by kernel_rfl) ?_ rfl rfl ?_ ?_
                rotate_left
                · go_simp; try rfl
                rotate_left
                · simp only [Act.put]; exact rfl
                refine CalmV.take (i := 6) (v := ?_) (a' := ?_) (l' := #[true, true, true, true, true, true, true, false, false, false, false, false, false, false, false, false, false, false, false, false]) (d := some 44) rfl (by kernel_rfl) (by kernel_rfl) (by kernel_rfl) (by kernel_rfl) ?_ rfl rfl ?_ ?_
                rotate_left
                · go_simp; try rfl
                rotate_left
                · simp only [Act.put]; exact rfl
                refine CalmV.take (i := 7) (v := ?_) (a' := ?_) (l' := #[true, true, true, true, true, true, true, true, false, false, false, false, false, false, false, false, false, false, false, false]) (d := some 45) rfl (by kernel_rfl) (by kernel_rfl) (by kernel_rfl) (by kernel_rfl) ?_ rfl rfl ?_ ?_
                rotate_left
                · go_simp; try rfl
                rotate_left
                · simp only [Act.put]; exact rfl
                refine CalmV.take (i := 8) (v := ?_) (a' := ?_) (l' := #[true, true, true, true, true, true, true, true, true, false, false, false, false, false, false, false, false, false, false, false]) (d := some 46) rfl (by kernel_rfl) (by kernel_rfl) (by kernel_rfl) (by kernel_rfl) ?_ rfl rfl ?_ ?_
                rotate_left
                · go_simp; try rfl
                rotate_left
                · simp only [Act.put]; exact rfl
                refine CalmV.take (i := 9) (v := ?_) (a' := ?_) (l' := #[true, true, true, true, true, true, true, true, true, true, false, false, false, false, false, false, false, false, false, false]) (d := some 47) rfl (by kernel_rfl) (by kernel_rfl) (by kernel_rfl) (by kernel_rfl) ?_ rfl rfl ?_ ?_
                rotate_left
                · go_simp; try rfl
                rotate_left
                · simp only [Act.put]; exact rfl
                refine CalmV.take (i := 10) (v := ?_) (a' := ?_) (l' := #[true, true, true, true, true, true, true, true, true, true, true, false, false, false, false, false, false, false, false, false]) (d := some 48) rfl (by kernel_rfl) (by kernel_rfl) (by kernel_rfl) rfl ?_ rfl rfl ?_ ?_
                rotate_left
                · go_simp; try rfl
                rotate_left
                · simp only [Act.put]; exact rfl
                refine CalmV.take (i := 11) (v := ?_) (a' := ?_) (l' := #[true, true, true, true, true, true, true, true, true, true, true, true, false, false, false, false, false, false, false, false]) (d := some 49) rfl (by kernel_rfl) (by kernel_rfl) (by kernel_rfl) rfl ?_ rfl rfl ?_ ?_
                rotate_left
                · go_simp; try rfl
                rotate_left
                · simp only [Act.put]; exact rfl
                refine CalmV.take (i := 12) (v := ?_) (a' := ?_) (l' := #[true, true, true, true, true, true, true, true, true, true, true, true, true, false, false, false, false, false, false, false]) (d := some 50) rfl (by kernel_rfl) (by kernel_rfl) (by kernel_rfl) (by kernel_rfl) ?_ rfl rfl ?_ ?_
                rotate_left
                · go_simp; try rfl
                rotate_left
                · simp only [Act.put]; exact rfl
                refine CalmV.take (i := 13) (v := ?_) (a' := ?_) (l' := #[true, true, true, true, true, true, true, true, true, true, true, true, true, true, false, false, false, false, false, false]) (d := some 51) rfl (by kernel_rfl) (by kernel_rfl) (by kernel_rfl) (by kernel_rfl) ?_ rfl rfl ?_ ?_
                rotate_left
                · go_simp; try rfl
                rotate_left
                · simp only [Act.put]; exact rfl
                refine CalmV.take (i := 14) (v := ?_) (a' := ?_) (l' := #[true, true, true, true, true, true, true, true, true, true, true, true, true, true, true, false, false, false, false, false]) (d := some 52) rfl (by kernel_rfl) (by kernel_rfl) (by kernel_rfl) (by kernel_rfl) ?_ rfl rfl ?_ ?_
                rotate_left
                · go_simp; try rfl
                rotate_left
                · simp only [Act.put]; exact rfl
                refine CalmV.take (i := 15) (v := ?_) (a' := ?_) (l' := #[true, true, true, true, true, true, true, true, true, true, true, true, true, true, true, true, false, false, false, false]) (d := some 53) rfl (by kernel_rfl) (by kernel_rfl) (by kernel_rfl) (by kernel_rfl) ?_ rfl rfl ?_ ?_
                rotate_left
                · go_simp; try rfl
                rotate_left
                · simp only [Act.put]; exact rfl
                refine CalmV.take (i := 16) (v := ?_) (a' := ?_) (l' := #[true, true, true, true, true, true, true, true, true, true, true, true, true, true, true, true, true, false, false, false]) (d := some 54) rfl (by kernel_rfl) (by kernel_rfl) (by kernel_rfl) (by kernel_rfl) ?_ rfl rfl ?_ ?_
                rotate_left
                · go_simp; try rfl
                rotate_left
                · simp only [Act.put]; exact rfl
                refine CalmV.take (i := 17) (v := ?_) (a' := ?_) (l' := #[true, true, true, true, true, true, true, true, true, true, true, true, true, true, true, true, true, true, false, false]) (d := some 55) rfl (by kernel_rfl) (by kernel_rfl) (by kernel_rfl) (by kernel_rfl) ?_ rfl rfl ?_ ?_
                rotate_left
                · go_simp; try rfl
                rotate_left
                · simp only [Act.put]; exact rfl
                refine CalmV.take (i := 18) (v := ?_) (a' := ?_) (l' := #[true, true, true, true, true, true, true, true, true, true, true, true, true, true, true, true, true, true, true, false]) (d := some 56) rfl (by kernel_rfl) (by kernel_rfl) (by kernel_rfl) (by kernel_rfl) ?_ rfl rfl ?_ ?_
                rotate_left
                · go_simp; try rfl
                rotate_left
                · simp only [Act.put]; exact rfl
                refine CalmV.take (i := 19) (v := ?_) (a' := ?_) (l' := #[true, true, true, true, true, true, true, true, true, true, true, true, true, true, true, true, true, true, true, true]) (d := some 57) rfl (by kernel_rfl) (by kernel_rfl) (by kernel_rfl) rfl ?_ rfl rfl ?_ ?_
                rotate_left
                · go_simp; try rfl
                rotate_left
                · simp only [Act.put]; exact rfl
                refine CalmV.done (by kernel_rfl) ?_
                try simp only [List.setIfInBounds_toArray, List.set_cons_succ, List.set_cons_zero]
                clear y0 y1 y2 y3 y4 z0 z1 z2 z3 z4 hp2
                replace HS := hide (sb_drew HS.out)
                replace HI' := hide (bx_drew HI'.out)
                gi_wp2
                refine ⟨((ko_drew W).trans (KeepsOthers.setCell _ _ _)).from _, ?_⟩
                exact ⟨fun _ => ⟨pre, _, rfl, by rw [CE.out, ← HN.out, ← HM.out]; exact hlt, fun e => hxy (by have := (Prod.mk.inj e).2; rw [this, HY.out, CE.out]; congr 1; rw [HK.out, ← HN.out, ← HM.out])⟩, fun h => absurd rfl h⟩
              · have q2 : (xi.a == y.a) = false := by simp [e]
                rw [e1] at y0
                rw [e2] at y1
                clear e e1 e2
                gi_wp2
                refine wp_calmV (n := 20) (by kernel_rfl) (by kernel_rfl) rfl rfl ?_
                refine CalmV.take (i := 0) (v := ?_) (a' := ?_) (l' := #[true, false, false, false, false, false, false, false, false, false, false, false, false, false, false, false, false, false, false, false]) (d := some 38) rfl (by kernel_rfl) (by kernel_rfl) (by kernel_rfl) rfl ?_ rfl rfl ?_ ?_
                rotate_left
                · go_simp; try rfl
                rotate_left
                · simp only [Act.put]; exact rfl
                refine CalmV.take (i := 1) (v := ?_) (a' := ?_) (l' := #[true, true, false, false, false, false, false, false, false, false, false, false, false, false, false, false, false, false, false, false]) (d := some 39) rfl (by kernel_rfl) (by kernel_rfl) (by kernel_rfl) rfl ?_ rfl rfl ?_ ?_
                rotate_left
                · go_simp; try rfl
                rotate_left
                · simp only [Act.put]; exact rfl
                refine CalmV.take (i := 2) (v := ?_) (a' := ?_) (l' := #[true, true, true, false, false, false, false, false, false, false, false, false, false, false, false, false, false, false, false, false]) (d := some 40) rfl (by kernel_rfl) (by kernel_rfl) (by kernel_rfl) rfl ?_ rfl rfl ?_ ?_
                rotate_left
                · go_simp; try rfl
                rotate_left
                · simp only [Act.put]; exact rfl
                refine CalmV.take (i := 3) (v := ?_) (a' := ?_) (l' := #[true, true, true, true, false, false, false, false, false, false, false, false, false, false, false, false, false, false, false, false]) (d := some 41) rfl (by kernel_rfl) (by kernel_rfl) (by kernel_rfl) rfl ?_ rfl rfl ?_ ?_
                rotate_left
                · go_simp; try rfl
                rotate_left
                · simp only [Act.put]; exact rfl
                refine CalmV.take (i := 4) (v := ?_) (a' := ?_) (l' := #[true, true, true, true, true, false, false, false, false, false, false, false, false, false, false, false, false, false, false, false]) (d := some 42) rfl (by kernel_rfl) (by kernel_rfl) (by kernel_rfl) (by kernel_rfl) ?_ rfl rfl ?_ ?_
                rotate_left
                · go_simp; try rfl
                rotate_left
                · simp only [Act.put]; exact rfl
                refine CalmV.take (i := 5) (v := ?_) (a' := ?_) (l' := #[true, true, true, true, true, true, false, false, false, false, false, false, false, false, false, false, false, false, false, false]) (d := some 43) rfl (by kernel_rfl) (by kernel_rfl) (by kernel_rfl) (by kernel_rfl) ?_ rfl rfl ?_ ?_
                rotate_left
                · go_simp; try rfl
                rotate_left
                · simp only [Act.put]; exact rfl
                refine CalmV.take (i := 6) (v := ?_) (a' := ?_) (l' := #[true, true, true, true, true, true, true, false, false, false, false, false, false, false, false, false, false, false, false, false]) (d := some 44) rfl (by kernel_rfl) (by kernel_rfl) (by kernel_rfl) (by kernel_rfl) ?_ rfl rfl ?_ ?_
                rotate_left
                · go_simp; try rfl
                rotate_left
                · simp only [Act.put]; exact rfl
                refine CalmV.take (i := 7) (v := ?_) (a' := ?_) (l' := #[true, true, true, true, true, true, true, true, false, false, false, false, false, false, false, false, false, false, false, false]) (d := some 45) rfl (by kernel_rfl) (by kernel_rfl) (by kernel_rfl) (by kernel_rfl) ?_ rfl rfl ?_ ?_
                rotate_left
                · go_simp; try rfl
                rotate_left
                · simp only [Act.put]; exact rfl
                refine CalmV.take (i := 8) (v := ?_) (a' := ?_) (l' := #[true, true, true, true, true, true, true, true, true, false, false, false, false, false, false, false, false, false, false, false]) (d := some 46) rfl (by kernel_rfl) (by kernel_rfl) (by kernel_rfl) (by kernel_rfl) ?_ rfl rfl ?_ ?_
                rotate_left
                · go_simp; try rfl
                rotate_left
                · simp only [Act.put]; exact rfl
                refine CalmV.take (i := 9) (v := ?_) (a' := ?_) (l' := #[true, true, true, true, true, true, true, true, true, true, false, false, false, false, false, false, false, false, false, false]) (d := some 47) rfl (by kernel_rfl) (by kernel_rfl) (by kernel_rfl) (by kernel_rfl) ?_ rfl rfl ?_ ?_
                rotate_left
                · go_simp; try rfl
                rotate_left
                · simp only [Act.put]; exact rfl
                refine CalmV.take (i := 10) (v := ?_) (a' := ?_) (l' := #[true, true, true, true, true, true, true, true, true, true, true, false, false, false, false, false, false, false, false, false]) (d := some 48) rfl (by kernel_rfl) (by kernel_rfl) (by kernel_rfl) rfl ?_ rfl rfl ?_ ?_
                rotate_left
                · go_simp; try rfl
                rotate_left
                · simp only [Act.put]; exact rfl
                refine CalmV.take (i := 11) (v := ?_) (a' := ?_) (l' := #[true, true, true, true, true, true, true, true, true, true, true, true, false, false, false, false, false, false, false, false]) (d := some 49) rfl (by kernel_rfl) (by kernel_rfl) (by kernel_rfl) rfl ?_ rfl rfl ?_ ?_
                rotate_left
                · go_simp; try rfl
                rotate_left
                · simp only [Act.put]; exact rfl
                refine CalmV.take (i := 12) (v := ?_) (a' := ?_) (l' := #[true, true, true, true, true, true, true, true, true, true, true, true, true, false, false, false, false, false, false, false]) (d := some 50) rfl (by kernel_rfl) (by kernel_rfl) (by kernel_rfl) (by kernel_rfl) ?_ rfl rfl ?_ ?_
                rotate_left
                · go_simp; try rfl
                rotate_left
                · simp only [Act.put]; exact rfl
                refine CalmV.take (i := 13) (v := ?_) (a' := ?_) (l' := #[true, true, true, true, true, true, true, true, true, true, true, true, true, true, false, false, false, false, false, false]) (d := some 51) rfl (by kernel_rfl) (by kernel_rfl) (by kernel_rfl) (by kernel_rfl) ?_ rfl rfl ?_ ?_
                rotate_left
                · go_simp; try rfl
                rotate_left
                · simp only [Act.put]; exact rfl
                refine CalmV.take (i := 14) (v := ?_) (a' := ?_) (l' := #[true, true, true, true, true, true, true, true, true, true, true, true, true, true, true, false, false, false, false, false]) (d := some 52) rfl (by kernel_rfl) (by kernel_rfl) (by kernel_rfl) (by kernel_rfl) ?_ rfl rfl ?_ ?_
                rotate_left
                · go_simp; try rfl
                rotate_left
                · simp only [Act.put]; exact rfl
                refine CalmV.take (i := 15) (v := ?_) (a' := ?_) (l' := #[true, true, true, true, true, true, true, true, true, true, true, true, true, true, true, true, false, false, false, false]) (d := some 53) rfl (by kernel_rfl) (by kernel_rfl) (by kernel_rfl) (by kernel_rfl) ?_ rfl rfl ?_ ?_
                rotate_left
                · go_simp; try rfl
                rotate_left
                · simp only [Act.put]; exact rfl
                refine CalmV.take (i := 16) (v := ?_) (a' := ?_) (l' := #[true, true, true, true, true, true, true, true, true, true, true, true, true, true, true, true, true, false, false, false]) (d := some 54) rfl (by kernel_rfl) (by kernel_rfl) (by kernel_rfl) (by kernel_rfl) ?_ rfl rfl ?_ ?_
                rotate_left
                · go_simp; try rfl
                rotate_left
                · simp only [Act.put]; exact rfl
                refine CalmV.take (i := 17) (v := ?_) (a' := ?_) (l' := #[true, true, true, true, true, true, true, true, true, true, true, true, true, true, true, true, true, true, false, false]) (d := some 55) rfl (by kernel_rfl) (by kernel_rfl) (by kernel_rfl) (by kernel_rfl) ?_ rfl rfl ?_ ?_
                rotate_left
                · go_simp; try rfl
                rotate_left
                · simp only [Act.put]; exact rfl
                refine CalmV.take (i := 18) (v := ?_) (a' := ?_) (l' := #[true, true, true, true, true, true, true, true, true, true, true, true, true, true, true, true, true, true, true, false]) (d := some 56) rfl (by kernel_rfl) (by kernel_rfl) (by kernel_rfl) (by kernel_rfl) ?_ rfl rfl ?_ ?_
                rotate_left
                · go_simp; try rfl
                rotate_left
                · simp only [Act.put]; exact rfl
                refine CalmV.take (i := 19) (v := ?_) (a' := ?_) (l' := #[true, true, true, true, true, true, true, true, true, true, true, true, true, true, true, true, true, true, true, true]) (d := some 57) rfl (by kernel_rfl) (by kernel_rfl) (by kernel_rfl) rfl ?_ rfl rfl ?_ ?_
                rotate_left
                · go_simp; try rfl
                rotate_left
                · simp only [Act.put]; exact rfl
                refine CalmV.done (by kernel_rfl) ?_
                try simp only [List.setIfInBounds_toArray, List.set_cons_succ, List.set_cons_zero]
                clear y0 y1 y2 y3 y4 z0 z1 z2 z3 z4 hp2
                replace HS := hide (sb_drew HS.out)
                replace HI' := hide (bx_drew HI'.out)
                gi_wp2
                refine ⟨((ko_drew W).trans (KeepsOthers.setCell _ _ _)).from _, ?_⟩
                exact ⟨fun _ => ⟨pre, _, rfl, by rw [CE.out, ← HN.out, ← HM.out]; exact hlt, fun e => hxy (by have := (Prod.mk.inj e).2; rw [this, HY.out, CE.out]; congr 1; rw [HK.out, ← HN.out, ← HM.out])⟩, fun h => absurd rfl h⟩
              · have q3 : (xi.b == y.b) = false := by simp [e]
                rw [e1] at y0
                rw [e2] at y1
                rw [e3] at y2
                clear e e1 e2 e3
                gi_wp2
                refine wp_calmV (n := 20) (by kernel_rfl) (by kernel_rfl) rfl rfl ?_
                refine CalmV.take (i := 0) (v := ?_) (a' := ?_) (l' := #[true, false, false, false, false, false, false, false, false, false, false, false, false, false, false, false, false, false, false, false]) (d := some 38) rfl (by kernel_rfl) (by kernel_rfl) (by kernel_rfl) rfl ?_ rfl rfl ?_ ?_
                rotate_left
                · go_simp; try rfl
                rotate_left
                · simp only [Act.put]; exact rfl
                refine CalmV.take (i := 1) (v := ?_) (a' := ?_) (l' := #[true, true, false, false, false, false, false, false, false, false, false, false, false, false, false, false, false, false, false, false]) (d := some 39) rfl (by kernel_rfl) (by kernel_rfl) (by kernel_rfl) rfl ?_ rfl rfl ?_ ?_
                rotate_left
                · go_simp; try rfl
                rotate_left
                · simp only [Act.put]; exact rfl
                refine CalmV.take (i := 2) (v := ?_) (a' := ?_) (l' := #[true, true, true, false, false, false, false, false, false, false, false, false, false, false, false, false, false, false, false, false]) (d := some 40) rfl (by kernel_rfl) (by kernel_rfl) (by kernel_rfl) rfl ?_ rfl rfl ?_ ?_
                rotate_left
                · go_simp; try rfl
                rotate_left
                · simp only [Act.put]; exact rfl
                refine CalmV.take (i := 3) (v := ?_) (a' := ?_) (l' := #[true, true, true, true, false, false, false, false, false, false, false, false, false, false, false, false, false, false, false, false]) (d := some 41) rfl (by kernel_rfl) (by kernel_rfl) (by kernel_rfl) rfl ?_ rfl rfl ?_ ?_
                rotate_left
                · go_simp; try rfl
                rotate_left
                · simp only [Act.put]; exact rfl
                refine CalmV.take (i := 4) (v := ?_) (a' := ?_) (l' := #[true, true, true, true, true, false, false, false, false, false, false, false, false, false, false, false, false, false, false, false]) (d := some 42) rfl (by kernel_rfl) (by kernel_rfl) (by kernel_rfl) (by kernel_rfl) ?_ rfl rfl ?_ ?_
                rotate_left
                · go_simp; try rfl
                rotate_left
                · simp only [Act.put]; exact rfl
                refine CalmV.take (i := 5) (v := ?_) (a' := ?_) (l' := #[true, true, true, true, true, true, false, false, false, false, false, false, false, false, false, false, false, false, false, false]) (d := some 43) rfl (by kernel_rfl) (by kernel_rfl) (by kernel_rfl) (by kernel_rfl) ?_ rfl rfl ?_ ?_
                rotate_left
                · go_simp; try rfl
                rotate_left
                · simp only [Act.put]; exact rfl
                refine CalmV.take (i := 6) (v := ?_) (a' := ?_) (l' := #[true, true, true, true, true, true, true, false, false, false, false, false, false, false, false, false, false, false, false, false]) (d := some 44) rfl (by kernel_rfl) (by kernel_rfl) (by kernel_rfl) (by kernel_rfl) ?_ rfl rfl ?_ ?_
                rotate_left
                · go_simp; try rfl
                rotate_left
                · simp only [Act.put]; exact rfl
                refine CalmV.take (i := 7) (v := ?_) (a' := ?_) (l' := #[true, true, true, true, true, true, true, true, false, false, false, false, false, false, false, false, false, false, false, false]) (d := some 45) rfl (by kernel_rfl) (by kernel_rfl) (by kernel_rfl) (by kernel_rfl) ?_ rfl rfl ?_ ?_
                rotate_left
                · go_simp; try rfl
                rotate_left
                · simp only [Act.put]; exact rfl
                refine CalmV.take (i := 8) (v := ?_) (a' := ?_) (l' := #[true, true, true, true, true, true, true, true, true, false, false, false, false, false, false, false, false, false, false, false]) (d := some 46) rfl (by kernel_rfl) (by kernel_rfl) (by kernel_rfl) (by kernel_rfl) ?_ rfl rfl ?_ ?_
                rotate_left
                · go_simp; try rfl
                rotate_left
                · simp only [Act.put]; exact rfl
                refine CalmV.take (i := 9) (v := ?_) (a' := ?_) (l' := #[true, true, true, true, true, true, true, true, true, true, false, false, false, false, false, false, false, false, false, false]) (d := some 47) rfl (by kernel_rfl) (by kernel_rfl) (by kernel_rfl) (by kernel_rfl) ?_ rfl rfl ?_ ?_
                rotate_left
                · go_simp; try rfl
                rotate_left
                · simp only [Act.put]; exact rfl
                refine CalmV.take (i := 10) (v := ?_) (a' := ?_) (l' := #[true, true, true, true, true, true, true, true, true, true, true, false, false, false, false, false, false, false, false, false]) (d := some 48) rfl (by kernel_rfl) (by kernel_rfl) (by kernel_rfl) rfl ?_ rfl rfl ?_ ?_
                rotate_left
                · go_simp; try rfl
                rotate_left
                · simp only [Act.put]; exact rfl
                refine CalmV.take (i := 11) (v := ?_) (a' := ?_) (l' := #[true, true, true, true, true, true, true, true, true, true, true, true, false, false, false, false, false, false, false, false]) (d := some 49) rfl (by kernel_rfl) (by kernel_rfl) (by kernel_rfl) rfl ?_ rfl rfl ?_ ?_
                rotate_left
                · go_simp; try rfl
                rotate_left
                · simp only [Act.put]; exact rfl
                refine CalmV.take (i := 12) (v := ?_) (a' := ?_) (l' := #[true, true, true, true, true, true, true, true, true, true, true, true, true, false, false, false, false, false, false, false]) (d := some 50) rfl (by kernel_rfl) (by kernel_rfl) (by kernel_rfl) (by kernel_rfl) ?_ rfl rfl ?_ ?_
                rotate_left
                · go_simp; try rfl
                rotate_left
                · simp only [Act.put]; exact rfl
                refine CalmV.take (i := 13) (v := ?_) (a' := ?_) (l' := #[true, true, true, true, true, true, true, true, true, true, true, true, true, true, false, false, false, false, false, false]) (d := some 51) rfl (by kernel_rfl) (by kernel_rfl) (by kernel_rfl) (by kernel_rfl) ?_ rfl rfl ?_ ?_
                rotate_left
                · go_simp; try rfl
                rotate_left
                · simp only [Act.put]; exact rfl
                refine CalmV.take (i := 14) (v := ?_) (a' := ?_) (l' := #[true, true, true, true, true, true, true, true, true, true, true, true, true, true, true, false, false, false, false, false]) (d := some 52) rfl (by kernel_rfl) (by kernel_rfl) (by kernel_rfl) (by kernel_rfl) ?_ rfl rfl ?_ ?_
                rotate_left
                · go_simp; try rfl
                rotate_left
                · simp only [Act.put]; exact rfl
                refine CalmV.take (i := 15) (v := ?_) (a' := ?_) (l' := #[true, true, true, true, true, true, true, true, true, true, true, true, true, true, true, true, false, false, false, false]) (d := some 53) rfl (by kernel_rfl) (by kernel_rfl) (by kernel_rfl) (by kernel_rfl) ?_ rfl rfl ?_ ?_
                rotate_left
                · go_simp; try rfl
                rotate_left
                · simp only [Act.put]; exact rfl
                refine CalmV.take (i := 16) (v := ?_) (a' := ?_) (l' := #[true, true, true, true, true, true, true, true, true, true, true, true, true, true, true, true, true, false, false, false]) (d := some 54) rfl (by kernel_rfl) (by kernel_rfl) (by kernel_rfl) (by kernel_rfl) ?_ rfl rfl ?_ ?_
                rotate_left
                · go_simp; try rfl
                rotate_left
                · simp only [Act.put]; exact rfl
                refine CalmV.take (i := 17) (v := ?_) (a' := ?_) (l' := #[true, true, true, true, true, true, true, true, true, true, true, true, true, true, true, true, true, true, false, false]) (d := some 55) rfl (by kernel_rfl) (by kernel_rfl) (by kernel_rfl) (by kernel_rfl) ?_ rfl rfl ?_ ?_
                rotate_left
                · go_simp; try rfl
                rotate_left
                · simp only [Act.put]; exact rfl
                refine CalmV.take (i := 18) (v := ?_) (a' := ?_) (l' := #[true, true, true, true, true, true, true, true, true, true, true, true, true, true, true, true, true, true, true, false]) (d := some 56) rfl (by kernel_rfl) (by kernel_rfl) (by kernel_rfl) (by kernel_rfl) ?_ rfl rfl ?_ ?_
                rotate_left
                · go_simp; try rfl
                rotate_left
                · simp only [Act.put]; exact rfl
                refine CalmV.take (i := 19) (v := ?_) (a' := ?_) (l' := #[true, true, true, true, true, true, true, true, true, true, true, true, true, true, true, true, true, true, true, true]) (d := some 57) rfl (by kernel_rfl) (by kernel_rfl) (by kernel_rfl) rfl ?_ rfl rfl ?_ ?_
                rotate_left
                · go_simp; try rfl
                rotate_left
                · simp only [Act.put]; exact rfl
                refine CalmV.done (by kernel_rfl) ?_
                try simp only [List.setIfInBounds_toArray, List.set_cons_succ, List.set_cons_zero]
                clear y0 y1 y2 y3 y4 z0 z1 z2 z3 z4 hp2
                replace HS := hide (sb_drew HS.out)
                replace HI' := hide (bx_drew HI'.out)
                gi_wp2
                refine ⟨((ko_drew W).trans (KeepsOthers.setCell _ _ _)).from _, ?_⟩
                exact ⟨fun _ => ⟨pre, _, rfl, by rw [CE.out, ← HN.out, ← HM.out]; exact hlt, fun e => hxy (by have := (Prod.mk.inj e).2; rw [this, HY.out, CE.out]; congr 1; rw [HK.out, ← HN.out, ← HM.out])⟩, fun h => absurd rfl h⟩
              · have q4 : (xi.c == y.c) = false := by simp [e]
                rw [e1] at y0
                rw [e2] at y1
                rw [e3] at y2
                rw [e4] at y3
                clear e e1 e2 e3 e4
                gi_wp2
                refine wp_calmV (n := 20) (by kernel_rfl) (by kernel_rfl) rfl rfl ?_
                refine CalmV.take (i := 0) (v := ?_) (a' := ?_) (l' := #[true, false, false, false, false, false, false, false, false, false, false, false, false, false, false, false, false, false, false, false]) (d := some 38) rfl (by kernel_rfl) (by kernel_rfl) (by kernel_rfl) rfl ?_ rfl rfl ?_ ?_
                rotate_left
                · go_simp; try rfl
                rotate_left
                · simp only [Act.put]; exact rfl
                refine CalmV.take (i := 1) (v := ?_) (a' := ?_) (l' := #[true, true, false, false, false, false, false, false, false, false, false, false, false, false, false, false, false, false, false, false]) (d := some 39) rfl (by kernel_rfl) (by kernel_rfl) (by kernel_rfl) rfl ?_ rfl rfl ?_ ?_
                rotate_left
                · go_simp; try rfl
                rotate_left
                · simp only [Act.put]; exact rfl
                refine CalmV.take (i := 2) (v := ?_) (a' := ?_) (l' := #[true, true, true, false, false, false, false, false, false, false, false, false, false, false, false, false, false, false, false, false]) (d := some 40) rfl (by kernel_rfl) (by kernel_rfl) (by kernel_rfl) rfl ?_ rfl rfl ?_ ?_
                rotate_left
                · go_simp; try rfl
                rotate_left
                · simp only [Act.put]; exact rfl
                refine CalmV.take (i := 3) (v := ?_) (a' := ?_) (l' := #[true, true, true, true, false, false, false, false, false, false, false, false, false, false, false, false, false, false, false, false]) (d := some 41) rfl (by kernel_rfl) (by kernel_rfl) (by kernel_rfl) rfl ?_ rfl rfl ?_ ?_
                rotate_left
                · go_simp; try rfl
                rotate_left
                · simp only [Act.put]; exact rfl
                refine CalmV.take (i := 4) (v := ?_) (a' := ?_) (l' := #[true, true, true, true, true, false, false, false, false, false, false, false, false, false, false, false, false, false, false, false]) (d := some 42) rfl (by kernel_rfl) (by kernel_rfl) (by kernel_rfl) (by kernel_rfl) ?_ rfl rfl ?_ ?_
                rotate_left
                · go_simp; try rfl
                rotate_left
                · simp only [Act.put]; exact rfl
                refine CalmV.take (i := 5) (v := ?_) (a' := ?_) (l' := #[true, true, true, true, true, true, false, false, false, false, false, false, false, false, false, false, false, false, false, false]) (d := some 43) rfl (by kernel_rfl) (by kernel_rfl) (by kernel_rfl) (by kernel_rfl) ?_ rfl rfl ?_ ?_
                rotate_left
                · go_simp; try rfl
                rotate_left
                · simp only [Act.put]; exact rfl
                refine CalmV.take (i := 6) (v := ?_) (a' := ?_) (l' := #[true, true, true, true, true, true, true, false, false, false, false, false, false, false, false, false, false, false, false, false]) (d := some 44) rfl (by kernel_rfl) (by kernel_rfl) (by kernel_rfl) (by kernel_rfl) ?_ rfl rfl ?_ ?_
                rotate_left
                · go_simp; try rfl
                rotate_left
                · simp only [Act.put]; exact rfl
                refine CalmV.take (i := 7) (v := ?_) (a' := ?_) (l' := #[true, true, true, true, true, true, true, true, false, false, false, false, false, false, false, false, false, false, false, false]) (d := some 45) rfl (by kernel_rfl) (by kernel_rfl) (by kernel_rfl) (by kernel_rfl) ?_ rfl rfl ?_ ?_
                rotate_left
                · go_simp; try rfl
                rotate_left
                · simp only [Act.put]; exact rfl
                refine CalmV.take (i := 8) (v := ?_) (a' := ?_) (l' := #[true, true, true, true, true, true, true, true, true, false, false, false, false, false, false, false, false, false, false, false]) (d := some 46) rfl (by kernel_rfl) (by kernel_rfl) (by kernel_rfl) (by kernel_rfl) ?_ rfl rfl ?_ ?_
                rotate_left
                · go_simp; try rfl
                rotate_left
                · simp only [Act.put]; exact rfl
                refine CalmV.take (i := 9) (v := ?_) (a' := ?_) (l' := #[true, true, true, true, true, true, true, true, true, true, false, false, false, false, false, false, false, false, false, false]) (d := some 47) rfl (by kernel_rfl) (by kernel_rfl) (by kernel_rfl) (by kernel_rfl) ?_ rfl rfl ?_ ?_
                rotate_left
                · go_simp; try rfl
                rotate_left
                · simp only [Act.put]; exact rfl
                refine CalmV.take (i := 10) (v := ?_) (a' := ?_) (l' := #[true, true, true, true, true, true, true, true, true, true, true, false, false, false, false, false, false, false, false, false]) (d := some 48) rfl (by kernel_rfl) (by kernel_rfl) (by kernel_rfl) rfl ?_ rfl rfl ?_ ?_
                rotate_left
                · go_simp; try rfl
                rotate_left
                · simp only [Act.put]; exact rfl
                refine CalmV.take (i := 11) (v := ?_) (a' := ?_) (l' := #[true, true, true, true, true, true, true, true, true, true, true, true, false, false, false, false, false, false, false, false]) (d := some 49) rfl (by kernel_rfl) (by kernel_rfl) (by kernel_rfl) rfl ?_ rfl rfl ?_ ?_
                rotate_left
                · go_simp; try rfl
                rotate_left
                · simp only [Act.put]; exact rfl
                refine CalmV.take (i := 12) (v := ?_) (a' := ?_) (l' := #[true, true, true, true, true, true, true, true, true, true, true, true, true, false, false, false, false, false, false, false]) (d := some 50) rfl (by kernel_rfl) (by kernel_rfl) (by kernel_rfl) (by kernel_rfl) ?_ rfl rfl ?_ ?_
                rotate_left
                · go_simp; try rfl
                rotate_left
                · simp only [Act.put]; exact rfl
                refine CalmV.take (i := 13) (v := ?_) (a' := ?_) (l' := #[true, true, true, true, true, true, true, true, true, true, true, true, true, true, false, false, false, false, false, false]) (d := some 51) rfl (by kernel_rfl) (by kernel_rfl) (by kernel_rfl) (by kernel_rfl) ?_ rfl rfl ?_ ?_
                rotate_left
                · go_simp; try rfl
                rotate_left
                · simp only [Act.put]; exact rfl
                refine CalmV.take (i := 14) (v := ?_) (a' := ?_) (l' := #[true, true, true, true, true, true, true, true, true, true, true, true, true, true, true, false, false, false, false, false]) (d := some 52) rfl (by kernel_rfl) (by kernel_rfl) (by kernel_rfl) (by kernel_rfl) ?_ rfl rfl ?_ ?_
                rotate_left
                · go_simp; try rfl
                rotate_left
                · simp only [Act.put]; exact rfl
                refine CalmV.take (i := 15) (v := ?_) (a' := ?_) (l' := #[true, true, true, true, true, true, true, true, true, true, true, true, true, true, true, true, false, false, false, false]) (d := some 53) rfl (by kernel_rfl) (by kernel_rfl) (by kernel_rfl) (by kernel_rfl) ?_ rfl rfl ?_ ?_
                rotate_left
                · go_simp; try rfl
                rotate_left
                · simp only [Act.put]; exact rfl
                refine CalmV.take (i := 16) (v := ?_) (a' := ?_) (l' := #[true, true, true, true, true, true, true, true, true, true, true, true, true, true, true, true, true, false, false, false]) (d := some 54) rfl (by kernel_rfl) (by kernel_rfl) (by kernel_rfl) (by kernel_rfl) ?_ rfl rfl ?_ ?_
                rotate_left
                · go_simp; try rfl
                rotate_left
                · simp only [Act.put]; exact rfl
                refine CalmV.take (i := 17) (v := ?_) (a' := ?_) (l' := #[true, true, true, true, true, true, true, true, true, true, true, true, true, true, true, true, true, true, false, false]) (d := some 55) rfl (by kernel_rfl) (by kernel_rfl) (by kernel_rfl) (by kernel_rfl) ?_ rfl rfl ?_ ?_
                rotate_left
                · go_simp; try rfl
                rotate_left
                · simp only [Act.put]; exact rfl
                refine CalmV.take (i := 18) (v := ?_) (a' := ?_) (l' := #[true, true, true, true, true, true, true, true, true, true, true, true, true, true, true, true, true, true, true, false]) (d := some 56) rfl (by kernel_rfl) (by kernel_rfl) (by kernel_rfl) (by kernel_rfl) ?_ rfl rfl ?_ ?_
                rotate_left
                · go_simp; try rfl
                rotate_left
                · simp only [Act.put]; exact rfl
                refine CalmV.take (i := 19) (v := ?_) (a' := ?_) (l' := #[true, true, true, true, true, true, true, true, true, true, true, true, true, true, true, true, true, true, true, true]) (d := some 57) rfl (by kernel_rfl) (by kernel_rfl) (by kernel_rfl) rfl ?_ rfl rfl ?_ ?_
                rotate_left
                · go_simp; try rfl
                rotate_left
                · simp only [Act.put]; exact rfl
                refine CalmV.done (by kernel_rfl) ?_
                try simp only [List.setIfInBounds_toArray, List.set_cons_succ, List.set_cons_zero]
                clear y0 y1 y2 y3 y4 z0 z1 z2 z3 z4 hp2
                replace HS := hide (sb_drew HS.out)
                replace HI' := hide (bx_drew HI'.out)
                gi_wp2
                refine ⟨((ko_drew W).trans (KeepsOthers.setCell _ _ _)).from _, ?_⟩
                exact ⟨fun _ => ⟨pre, _, rfl, by rw [CE.out, ← HN.out, ← HM.out]; exact hlt, fun e => hxy (by have := (Prod.mk.inj e).2; rw [this, HY.out, CE.out]; congr 1; rw [HK.out, ← HN.out, ← HM.out])⟩, fun h => absurd rfl h⟩
          · have h47 : ((kx : Int) != (nn : Int) - 1 - (m : Int)) = true := by have := HK.out; simp; omega
            gi_wp2
            refine wp_calmV (n := 20) (by kernel_rfl) (by kernel_rfl) rfl rfl ?_
            refine CalmV.take (i := 0) (v := ?_) (a' := ?_) (l' := #[true, false, false, false, false, false, false, false, false, false, false, false, false, false, false, false, false, false, false, false]) (d := some 38) rfl (by kernel_rfl) (by kernel_rfl) (by kernel_rfl) rfl ?_ rfl rfl ?_ ?_
            rotate_left
            · go_simp; try rfl
            rotate_left
            · simp only [Act.put]; exact rfl
            refine CalmV.take (i := 1) (v := ?_) (a' := ?_) (l' := #[true, true, false, false, false, false, false, false, false, false, false, false, false, false, false, false, false, false, false, false]) (d := some 39) rfl (by kernel_rfl) (by kernel_rfl) (by kernel_rfl) rfl ?_ rfl rfl ?_ ?_
            rotate_left
            · go_simp; try rfl
            rotate_left
            · simp only [Act.put]; exact rfl
            refine CalmV.take (i := 2) (v := ?_) (a' := ?_) (l' := #[true, true, true, false, false, false, false, false, false, false, false, false, false, false, false, false, false, false, false, false]) (d := some 40) rfl (by kernel_rfl) (by kernel_rfl) (by kernel_rfl) rfl ?_ rfl rfl ?_ ?_
            rotate_left
            · go_simp; try rfl
            rotate_left
            · simp only [Act.put]; exact rfl
            refine CalmV.take (i := 3) (v := ?_) (a' := ?_) (l' := #[true, true, true, true, false, false, false, false, false, false, false, false, false, false, false, false, false, false, false, false]) (d := some 41) rfl (by kernel_rfl) (by kernel_rfl) (by kernel_rfl) rfl ?_ rfl rfl ?_ ?_
            rotate_left
            · go_simp; try rfl
            rotate_left
            · simp only [Act.put]; exact rfl
            refine CalmV.take (i := 4) (v := ?_) (a' := ?_) (l' := #[true, true, true, true, true, false, false, false, false, false, false, false, false, false, false, false, false, false, false, false]) (d := some 42) rfl (by kernel_rfl) (by kernel_rfl) (by kernel_rfl) (by kernel_rfl) ?_ rfl rfl ?_ ?_
            rotate_left
            · go_simp; try rfl
            rotate_left
            · simp only [Act.put]; exact rfl
            refine CalmV.take (i := 5) (v := ?_) (a' := ?_) (l' := #[true, true, true, true, true, true, false, false, false, false, false, false, false, false, false, false, false, false, false, false]) (d := some 43) rfl (by kernel_rfl) (by kernel_rfl) (by kernel_rfl) (by kernel_rfl) ?_ rfl rfl ?_ ?_
            rotate_left
            · go_simp; try rfl
            rotate_left
            · simp only [Act.put]; exact rfl
            refine CalmV.take (i := 6) (v := ?_) (a' := ?_) (l' := #[true, true, true, true, true, true, true, false, false, false, false, false, false, false, false, false, false, false, false, false]) (d := some 44) rfl (by kernel_rfl) (by kernel_rfl) (by kernel_rfl) (by kernel_rfl) ?_ rfl rfl ?_ ?_
            rotate_left
            · go_simp; try rfl
            rotate_left
            · simp only [Act.put]; exact rfl
            refine CalmV.take (i := 7) (v := ?_) (a' := ?_) (l' := #[true, true, true, true, true, true, true, true, false, false, false, false, false, false, false, false, false, false, false, false]) (d := some 45) rfl (by kernel_rfl) (by kernel_rfl) (by kernel_rfl) (by kernel_rfl) ?_ rfl rfl ?_ ?_
            rotate_left
            · go_simp; try rfl
            rotate_left
            · simp only [Act.put]; exact rfl
            refine CalmV.take (i := 8) (v := ?_) (a' := ?_) (l' := #[true, true, true, true, true, true, true, true, true, false, false, false, false, false, false, false, false, false, false, false]) (d := some 46) rfl (by kernel_rfl) (by kernel_rfl) (by kernel_rfl) (by kernel_rfl) ?_ rfl rfl ?_ ?_
            rotate_left
            · go_simp; try rfl
            rotate_left
            · simp only [Act.put]; exact rfl
            refine CalmV.take (i := 9) (v := ?_) (a' := ?_) (l' := #[true, true, true, true, true, true, true, true, true, true, false, false, false, false, false, false, false, false, false, false]) (d := some 47) rfl (by kernel_rfl) (by kernel_rfl) (by kernel_rfl) (by kernel_rfl) ?_ rfl rfl ?_ ?_
            rotate_left
            · go_simp; try rfl
            rotate_left
            · simp only [Act.put]; exact rfl
            refine CalmV.take (i := 10) (v := ?_) (a' := ?_) (l' := #[true, true, true, true, true, true, true, true, true, true, true, false, false, false, false, false, false, false, false, false]) (d := some 48) rfl (by kernel_rfl) (by kernel_rfl) (by kernel_rfl) rfl ?_ rfl rfl ?_ ?_
            rotate_left
            · go_simp; try rfl
            rotate_left
            · simp only [Act.put]; exact rfl
            refine CalmV.take (i := 11) (v := ?_) (a' := ?_) (l' := #[true, true, true, true, true, true, true, true, true, true, true, true, false, false, false, false, false, false, false, false]) (d := some 49) rfl (by kernel_rfl) (by kernel_rfl) (by kernel_rfl) rfl ?_ rfl rfl ?_ ?_
            rotate_left
            · go_simp; try rfl
            rotate_left
            · simp only [Act.put]; exact rfl
            refine CalmV.skip (i := 12) (a' := ?_) (l' := #[true, true, true, true, true, true, true, true, true, true, true, true, true, false, false, false, false, false, false, false]) (d := some 50) rfl (by kernel_rfl) (by kernel_rfl) (by kernel_rfl) (by kernel_rfl) rfl rfl ?_ ?_
            rotate_left
            · simp only [Act.put]; exact rfl
            refine CalmV.skip (i := 13) (a' := ?_) (l' := #[true, true, true, true, true, true, true, true, true, true, true, true, true, true, false, false, false, false, false, false]) (d := some 51) rfl (by kernel_rfl) (by kernel_rfl) (by kernel_rfl) (by kernel_rfl) rfl rfl ?_ ?_
            rotate_left
            · simp only [Act.put]; exact rfl
            refine CalmV.skip (i := 14) (a' := ?_) (l' := #[true, true, true, true, true, true, true, true, true, true, true, true, true, true, true, false, false, false, false, false]) (d := some 52) rfl (by kernel_rfl) (by kernel_rfl) (by kernel_rfl) (by kernel_rfl) rfl rfl ?_ ?_
            rotate_left
            · simp only [Act.put]; exact rfl
            refine CalmV.skip (i := 15) (a' := ?_) (l' := #[true, true, true, true, true, true, true, true, true, true, true, true, true, true, true, true, false, false, false, false]) (d := some 53) rfl (by kernel_rfl) (by kernel_rfl) (by kernel_rfl) (by kernel_rfl) rfl rfl ?_ ?_
            rotate_left
            · simp only [Act.put]; exact rfl
            refine CalmV.skip (i := 16) (a' := ?_) (l' := #[true, true, true, true, true, true, true, true, true, true, true, true, true, true, true, true, true, false, false, false]) (d := some 54) rfl (by kernel_rfl) (by kernel_rfl) (by kernel_rfl) (by kernel_rfl) rfl rfl ?_ ?_
            rotate_left
            · simp only [Act.put]; exact rfl
            refine CalmV.skip (i := 17) (a' := ?_) (l' := #[true, true, true, true, true, true, true, true, true, true, true, true, true, true, true, true, true, true, false, false]) (d := some 55) rfl (by kernel_rfl) (by kernel_rfl) (by kernel_rfl) (by kernel_rfl) rfl rfl ?_ ?_
            rotate_left
            · simp only [Act.put]; exact rfl
            refine CalmV.skip (i := 18) (a' := ?_) (l' := #[true, true, true, true, true, true, true, true, true, true, true, true, true, true, true, true, true, true, true, false]) (d := some 56) rfl (by kernel_rfl) (by kernel_rfl) (by kernel_rfl) (by kernel_rfl) rfl rfl ?_ ?_
            rotate_left
            · simp only [Act.put]; exact rfl
            refine CalmV.take (i := 19) (v := ?_) (a' := ?_) (l' := #[true, true, true, true, true, true, true, true, true, true, true, true, true, true, true, true, true, true, true, true]) (d := some 57) rfl (by kernel_rfl) (by kernel_rfl) (by kernel_rfl) rfl ?_ rfl rfl ?_ ?_
            rotate_left
            · go_simp; try rfl
            rotate_left
            · simp only [Act.put]; exact rfl
            refine CalmV.done (by kernel_rfl) ?_
            try simp only [List.setIfInBounds_toArray, List.set_cons_succ, List.set_cons_zero]
            clear y0 y1 y2 y3 y4 z0 z1 z2 z3 z4 hp2
            replace HS := hide (sb_drew HS.out)
            replace HI' := hide (bx_drew HI'.out)
            gi_wp2
            refine ⟨((ko_drew W).trans (KeepsOthers.setCell _ _ _)).from _, ?_⟩
            exact ⟨fun _ => ⟨pre, _, rfl, by rw [CE.out, ← HN.out, ← HM.out]; exact hlt, fun e => h1 (by have := (Prod.mk.inj e).1; rw [this, HK.out, CE.out, ← HN.out, ← HM.out])⟩, fun h => absurd rfl h⟩
        case nx12 =>
          rintro M12 W12 v hD hv hi hS hK
          have HS := hide hS
          have HI' := hide hi
          have KM12 := hide hK
          have GM12 := hide hD
          have ORM12 : Hid (R < M12) := hide (by have := BRI12.out; have := LI12.out; omega)
          have OWM12 : Hid (w.heap.size ≤ M12) := hide (by have := PXI12.out; have := WPX.out; have := LI12.out; omega)
          clear hS hi hK hD
          have SZ := hide HS.out.base.size
          replace HW := hide (HS.out.below HW.out (by have := LWI12.out; omega) (by have := HW.out.size; omega))
          replace BN := hide (HS.out.boxed BN.out (by have := BNI12.out; omega))
          replace BD := hide (HS.out.boxed BD.out (by have := BDI12.out; omega))
          replace BE := hide (HS.out.boxed BE.out (by have := BEI12.out; omega))
          replace BR := hide (HS.out.boxed BR.out (by have := BRI12.out; omega))
          replace PX := hide (HS.out.box4 PX.out (by have := PXI12.out; omega))
          replace KM01 := hide ((HS.out.block _ (Array.getElem?_eq_some_iff.1 KM01.out).1 (by have := MIM0112.out; omega)).trans KM01.out)
          replace HB := hide (HS.out.below HB.out (by have := PXI12.out; have := WPX.out; omega) (by have := HB.out.size; omega))
          have i0 := HI'.out.cell
          have n0 := BN.out.cell
          have d0 := BD.out.cell
          have e0 := BE.out.cell
          by_cases hvn : v = (cs.length : Nat)
          · subst hvn
            clear hv
            go_upto_region 14 with fail
            clear i0 n0 d0 e0
            have GN := hide BN.out.lt
            have GE := hide BE.out.lt
            have GR := hide BR.out.lt
            have GP := hide (Box4.lt PX.out)
            have GW := hide HW.out.size
            have GKM01 := hide (Array.getElem?_eq_some_iff.1 KM01.out).1
            have GKM12 := hide (Array.getElem?_eq_some_iff.1 KM12.out).1
            have hb := below_alloc W12 (.cells #[.int .i64 1] 3)
            replace BD := hide (Boxed.new W12 3 (.int .i64 1))
            replace HW := hide (HW.out.trans (hb.mono HW.out.size))
            replace BN := hide (boxed_step BN.out hb)
            replace KM01 := hide ((hb.block _ (Array.getElem?_eq_some_iff.1 KM01.out).1).trans KM01.out)
            replace KM12 := hide ((hb.block _ (Array.getElem?_eq_some_iff.1 KM12.out).1).trans KM12.out)
            clear HS HI'
            replace PX := hide (PX.out.step hb)
            replace BE := hide (boxed_step BE.out hb)
            replace BR := hide (boxed_step BR.out hb)
            replace HB := hide (HB.out.trans (hb.mono HB.out.size))
            clear hb
            generalize W12.alloc (.cells #[.int .i64 1] 3) = U12e at *
            obtain ⟨D12e, hD⟩ : ∃ D, D = W12.heap.size := ⟨_, rfl⟩
            have HD := hide hD
            rw [← hD] at BD ⊢
            clear hD
            have d0 := BD.out.cell
            have df := BD.out.frozen
            go_wp2
            rw [rounds_succ]
            clear d0 df
            have HS := hide ((SameBut.refl D12e U12e).set (.int .i64 2))
            replace BD := hide (BD.out.set (.int .i64 2))
            replace HW := hide (HS.out.below HW.out (by have := HD.out; have := GW.out; omega) (by have := HW.out.size; omega))
            replace BN := hide (HS.out.boxed BN.out (by have := HD.out; have := GN.out; omega))
            replace BE := hide (HS.out.boxed BE.out (by have := HD.out; have := GE.out; omega))
            replace BR := hide (HS.out.boxed BR.out (by have := HD.out; have := GR.out; omega))
            replace PX := hide (HS.out.box4 PX.out (by have := HD.out; have := GP.out; omega))
            replace HB := hide (HS.out.below HB.out (by have := HD.out; have := GP.out; have := WPX.out; omega) (by have := HB.out.size; omega))
            replace KM01 := hide ((HS.out.block _ (Array.getElem?_eq_some_iff.1 KM01.out).1 (by have := HD.out; have := GKM01.out; omega)).trans KM01.out)
            replace KM12 := hide ((HS.out.block _ (Array.getElem?_eq_some_iff.1 KM12.out).1 (by have := HD.out; have := GKM12.out; omega)).trans KM12.out)
            clear HS
            generalize U12e.setCell ⟨D12e, 0, none⟩ (.int .i64 2) = T12e at *
            have d0 := BD.out.cell
            have r0 := BR.out.cell
            have rf := BR.out.frozen
            go_wp2
            exact two_marks rfl _ _ w R M01 M12 true rfl ((Below.heap_setCell _ _ _ _ (by show M01 ≠ R; have := ORM01.out; omega)).trans KM01.out) ((Below.heap_setCell _ _ _ _ (by show M12 ≠ R; have := BRI12.out; have := LI12.out; have := GM12.out; omega)).trans KM12.out) (by have := MIM0112.out; have := LI12.out; have := GM12.out; omega) (BR.out.set _) (HB.out.setCell (p := ⟨R, 0, none⟩) (by show w.heap.size ≤ R; have := HZ.out; have := HR.out; omega) _) (by have := OWM01.out; omega) (by have := PXI12.out; have := WPX.out; have := LI12.out; have := GM12.out; omega)
          · exact absurd (hv.elim id (fun h => h.1.elim)) hvn
      · have hs : stop = v := (hv.elim (fun h => absurd h hvn) (fun h => h.2)).symm
        subst hs
        clear hv
        have hvn' : (stop != (cs.length : Nat)) = true := by simpa using hvn
        clear hvn
        go_upto_region 14 with fail
        clear i0 n0 d0 e0
        clear hvn'
        have GN := hide BN.out.lt
        have GE := hide BE.out.lt
        have GR := hide BR.out.lt
        have GP := hide (Box4.lt PX.out)
        have GW := hide HW.out.size
        have GKM01 := hide (Array.getElem?_eq_some_iff.1 KM01.out).1
        have hb := below_alloc W01 (.cells #[.int .i64 0] 3)
        replace BD := hide (Boxed.new W01 3 (.int .i64 0))
        replace HW := hide (HW.out.trans (hb.mono HW.out.size))
        replace BN := hide (boxed_step BN.out hb)
        replace KM01 := hide ((hb.block _ (Array.getElem?_eq_some_iff.1 KM01.out).1).trans KM01.out)
        clear HS HI'
        replace PX := hide (PX.out.step hb)
        replace BE := hide (boxed_step BE.out hb)
        replace BR := hide (boxed_step BR.out hb)
        replace HB := hide (HB.out.trans (hb.mono HB.out.size))
        clear hb
        generalize W01.alloc (.cells #[.int .i64 0] 3) = U01n at *
        obtain ⟨D01n, hD⟩ : ∃ D, D = W01.heap.size := ⟨_, rfl⟩
        have HD := hide hD
        rw [← hD] at BD ⊢
        clear hD
        have d0 := BD.out.cell
        have df := BD.out.frozen
        go_wp2
        rw [rounds_succ]
        clear d0 df
        have HS := hide ((SameBut.refl D01n U01n).set (.int .i64 1))
        replace BD := hide (BD.out.set (.int .i64 1))
        replace HW := hide (HS.out.below HW.out (by have := HD.out; have := GW.out; omega) (by have := HW.out.size; omega))
        replace BN := hide (HS.out.boxed BN.out (by have := HD.out; have := GN.out; omega))
        replace BE := hide (HS.out.boxed BE.out (by have := HD.out; have := GE.out; omega))
        replace BR := hide (HS.out.boxed BR.out (by have := HD.out; have := GR.out; omega))
        replace PX := hide (HS.out.box4 PX.out (by have := HD.out; have := GP.out; omega))
        replace HB := hide (HS.out.below HB.out (by have := HD.out; have := GP.out; have := WPX.out; omega) (by have := HB.out.size; omega))
        replace KM01 := hide ((HS.out.block _ (Array.getElem?_eq_some_iff.1 KM01.out).1 (by have := HD.out; have := GKM01.out; omega)).trans KM01.out)
        clear HS
        generalize U01n.setCell ⟨D01n, 0, none⟩ (.int .i64 1) = T01n at *
        have d0 := BD.out.cell
        go_upto_region 16 with fail
        clear d0
        have BN0 := hide BN.out.lt
        have BD0 := hide BD.out.lt
        have BE0 := hide BE.out.lt
        have BR0 := hide BR.out.lt
        have PX0 := hide PX.out.lt
        have HW0 := hide HW.out.size
        have M0M01 := hide (Array.getElem?_eq_some_iff.1 KM01.out).1
        have hb := below_alloc T01n (.cells #[.int .i64 0] 3)
        have BI := hide (Boxed.new T01n 3 (.int .i64 0))
        replace HW := hide (HW.out.trans (hb.mono HW.out.size))
        replace BN := hide (boxed_step BN.out hb)
        replace BD := hide (boxed_step BD.out hb)
        replace KM01 := hide ((hb.block _ (Array.getElem?_eq_some_iff.1 KM01.out).1).trans KM01.out)
        replace PX := hide (PX.out.step hb)
        replace BE := hide (boxed_step BE.out hb)
        replace BR := hide (boxed_step BR.out hb)
        replace HB := hide (HB.out.trans (hb.mono HB.out.size))
        clear hb
        generalize T01n.alloc (.cells #[.int .i64 0] 3) = V13 at *
        obtain ⟨I13, hI⟩ : ∃ I, I = T01n.heap.size := ⟨_, rfl⟩
        have HI13 := hide hI
        rw [← hI] at BI ⊢
        clear hI
        have BNI13 : Hid (G < I13) := hide (by have := HI13.out; have := BN0.out; omega)
        have BDI13 : Hid (D01n < I13) := hide (by have := HI13.out; have := BD0.out; omega)
        have BEI13 : Hid (E < I13) := hide (by have := HI13.out; have := BE0.out; omega)
        have BRI13 : Hid (R < I13) := hide (by have := HI13.out; have := BR0.out; omega)
        have PXI13 : Hid (B < I13) := hide (by have := HI13.out; have := PX0.out; omega)
        have LWI13 : Hid (w4.heap.size ≤ I13) := hide (by have := HI13.out; have := HW0.out; omega)
        have MIM0113 : Hid (M01 < I13) := hide (by have := HI13.out; have := M0M01.out; omega)
        have LB := hide (Box4.lt PX.out)
        have LI13 : Hid (I13 < V13.heap.size) := hide BI.out.lt
        go_wp2_with fail
        refine (wpIn_wide (n := 3)).1 ?_
        refine range_any False (stop := stop) (cs := cs) (by omega) (gf := 40) (lb := #[.pointer (some ⟨bx, 0, none⟩)]) rfl (enters_of Tryd.func40 (by kernel_rfl) rfl)
          (back_stops 2 (by omega) bx lo w4.heap.size lo vb cs (by have := CL.out; omega) w4 OW.out (Nat.le_refl _) rfl lo0.out X2.out CX.out) Keeps.trans
          (fun W l o o' hl _ _ _ k _ h2 => by rw [World.putObj_heap_other (by have := HW.out.size; omega)]) HW.out (fun _ => rfl)
          BI.out ?assign13 ?body13 ?nx13
        case assign13 =>
          intro l pre x W K hI hK
          obtain ⟨hi, hS⟩ := hI
          obtain ⟨kx, xi⟩ := x
          unfold encN
          simp only [List.zip_toArray, List.zip_cons_cons, List.zip_nil_right, List.foldl_toArray', List.size_toArray, List.length_cons, List.length_nil, List.foldl_cons, List.foldl_nil, List.setIfInBounds_toArray, List.set_cons_succ, List.set_cons_zero]
          gi_wp2
          have b5 := Box5.new W 36 xi
          have ks := KeepsOthers.alloc W (.cells xi.vals 36)
          have kp := keeps_alloc (lo := lo) (hi := w4.heap.size) W (.cells xi.vals 36) (by have := hS.base.size; have := HW.out.size; omega)
          have hi' := boxed_step hi (below_alloc W (.cells xi.vals 36))
          have hS' := hS.alloc (.cells xi.vals 36)
          unfold Ins.vals at b5 ks kp hi' hS'
          generalize W.alloc (.cells #[.int .i64 xi.op, .int .i64 xi.to, .int .i64 xi.a, .int .i64 xi.b, .int .i64 xi.c] 36) = W' at *
          generalize W.heap.size = gx at *
          exact hK _ _ (ks.from _) kp ⟨hi', hS'⟩ ⟨gx, by simp only [fr, encN, List.zip_toArray, List.zip_cons_cons, List.zip_nil_right, List.foldl_toArray', List.size_toArray, List.length_cons, List.length_nil, List.foldl_cons, List.foldl_nil, List.setIfInBounds_toArray, List.set_cons_succ, List.set_cons_zero], b5⟩
        case body13 =>
          rintro l pre x gx W ⟨hi, hS⟩ hbx hlt
          rw [tb_length] at hlt
          obtain ⟨kx, xi⟩ := x
          unfold fr encN
          dsimp only at hbx
          simp only [List.zip_toArray, List.zip_cons_cons, List.zip_nil_right, List.foldl_toArray', List.size_toArray, List.length_cons, List.length_nil, List.foldl_cons, List.foldl_nil, List.setIfInBounds_toArray, List.set_cons_succ, List.set_cons_zero]
          have hcI := hi.cell
          have hfI := hi.frozen
          have hcN := (hS.boxed BN.out (by have := BNI13.out; omega)).cell
          have hcD := (hS.boxed BD.out (by have := BDI13.out; omega)).cell
          have hcE := (hS.boxed BE.out (by have := BEI13.out; omega)).cell
          have hcR := (hS.boxed BR.out (by have := BRI13.out; omega)).cell
          have hfR := (hS.boxed BR.out (by have := BRI13.out; omega)).frozen
          have hp2 := (hS.box4 PX.out (by have := PXI13.out; omega)).cell2
          have y0 := hbx.cells.cell0
          have y1 := hbx.cells.cell1
          have y2 := hbx.cells.cell2
          have y3 := hbx.cells.cell3
          have y4 := hbx.cells.cell4
          simp only [Nat.zero_add] at y1 y2 y3 y4
          have HBW := hide (hS.below HB.out (by have := PXI13.out; have := WPX.out; omega) (by have := HB.out.size; omega))
          obtain ⟨k, hk⟩ : ∃ k : Nat, k = cs.length - 1 - pre.length := ⟨_, rfl⟩
          have hkl : k < p.code.length := by rw [← CE.out]; omega
          obtain ⟨b, off, hca, k1⟩ := KC0.out.at hkl
          replace k1 := k1.step HBW.out
          rw [hca] at hp2
          obtain ⟨y, hy⟩ : ∃ y, y = cd p.code k := ⟨_, rfl⟩
          rw [← hy] at k1
          have z0 := k1.cell0
          have z1 := k1.cell1
          have z2 := k1.cell2
          have z3 := k1.cell3
          have z4 := k1.cell4
          clear k1 hca hbx
          obtain ⟨m, hm⟩ : ∃ m, m = pre.length := ⟨_, rfl⟩
          rw [← hm] at hcI hk hlt
          obtain ⟨nn, hnn⟩ : ∃ nn, nn = p.code.length := ⟨_, rfl⟩
          rw [CE.out, ← hnn] at hk hlt
          rw [CE.out, ← hnn] at hcN
          rw [← hnn] at hkl hp2
          have nb : nn ≤ 400 := by rw [hnn]; exact L1.out.1
          have HM := hide hm
          have HN := hide hnn
          have HY := hide hy
          have HK := hide hk
          have HS := hide hS
          have HI' := hide hi
          clear hm hnn hy hS hi hk
          have nD : D01n ≠ I13 := by have := BDI13.out; omega
          have nE : E ≠ I13 := by have := BEI13.out; omega
          have g0 : ¬ (nn : Int) ≤ (m : Int) := by omega
          have g1 : ¬ nn ≤ m := by omega
          have u1 : IntKind.i64.wrap ((nn : Int) - 1) = (nn : Int) - 1 := by rw [IntKind.wrap_i64]; omega
          have u2 : IntKind.i64.wrap ((nn : Int) - 1 - (m : Int)) = (nn : Int) - 1 - (m : Int) := by rw [IntKind.wrap_i64]; omega
          by_cases h1 : kx = k
          · subst h1
            have h47 : ((kx : Int) != (nn : Int) - 1 - (m : Int)) = false := by have := HK.out; simp; omega
            by_cases hxy : xi = y
            · subst hxy
              gi_wp2
              refine wp_calmV (n := 20) (by kernel_rfl) (by kernel_rfl) rfl rfl ?_
              refine CalmV.take (i := 0) (v := ?_) (a' := ?_) (l' := #[true, false, false, false, false, false, false, false, false, false, false, false, false, false, false, false, false, false, false, false]) (d := some 38) rfl (by kernel_rfl) (by kernel_rfl) (by kernel_rfl) rfl ?_ rfl rfl ?_ ?_
              rotate_left
              · go_simp; try rfl
              rotate_left
              · simp only [Act.put]; exact rfl
              refine CalmV.take (i := 1) (v := ?_) (a' := ?_) (l' := #[true, true, false, false, false, false, false, false, false, false, false, false, false, false, false, false, false, false, false, false]) (d := some 39) rfl (by kernel_rfl) (by kernel_rfl) (by kernel_rfl) rfl ?_ rfl rfl ?_ ?_
              rotate_left
              · go_simp; try rfl
              rotate_left
              · simp only [Act.put]; exact rfl
              refine CalmV.take (i := 2) (v := ?_) (a' := ?_) (l' := #[true, true, true, false, false, false, false, false, false, false, false, false, false, false, false, false, false, false, false, false]) (d := some 40) rfl (by kernel_rfl) (by kernel_rfl) (by kernel_rfl) rfl ?_ rfl rfl ?_ ?_
              rotate_left
              · go_simp; try rfl
              rotate_left
              · simp only [Act.put]; exact rfl
              refine CalmV.take (i := 3) (v := ?_) (a' := ?_) (l' := #[true, true, true, true, false, false, false, false, false, false, false, false, false, false, false, false, false, false, false, false]) (d := some 41) rfl (by kernel_rfl) (by kernel_rfl) (by kernel_rfl) rfl ?_ rfl rfl ?_ ?_
              rotate_left
              · go_simp; try rfl
              rotate_left
              · simp only [Act.put]; exact rfl
              refine CalmV.take (i := 4) (v := ?_) (a' := ?_) (l' := #[true, true, true, true, true, false, false, false, false, false, false, false, false, false, false, false, false, false, false, false]) (d := some 42) rfl (by kernel_rfl) (by kernel_rfl) (by kernel_rfl) (by kernel_rfl) ?_ rfl rfl ?_ ?_
              rotate_left
              · go_simp; try rfl
              rotate_left
              · simp only [Act.put]; exact rfl
              refine CalmV.take (i := 5) (v := ?_) (a' := ?_) (l' := #[true, true, true, true, true, true, false, false, false, false, false, false, false, false, false, false, false, false, false, false]) (d := some 43) rfl (by kernel_rfl) (by kernel_rfl) (by kernel_rfl) (by kernel_rfl) ?_ rfl rfl ?_ ?_
              rotate_left
              · go_simp; try rfl
              rotate_left
              · simp only [Act.put]; exact rfl
              refine CalmV.take (i := 6) (v := ?_) (a' := ?_) (l' := #[true, true, true, true, true, true, true, false, false, false, false, false, false, false, false, false, false, false, false, false]) (d := some 44) rfl (by kernel_rfl) (by kernel_rfl) (by kernel_rfl) (by kernel_rfl) ?_ rfl rfl ?_ ?_
              rotate_left
              · go_simp; try rfl
              rotate_left
              · simp only [Act.put]; exact rfl
              refine CalmV.take (i := 7) (v := ?_) (a' := ?_) (l' := #[true, true, true, true, true, true, true, true, false, false, false, false, false, false, false, false, false, false, false, false]) (d := some 45) rfl (by kernel_rfl) (by kernel_rfl) (by kernel_rfl) (by kernel_rfl) ?_ rfl rfl ?_ ?_
              rotate_left
              · go_simp; try rfl
              rotate_left
              · simp only [Act.put]; exact rfl
              refine CalmV.take (i := 8) (v := ?_) (a' := ?_) (l' := #[true, true, true, true, true, true, true, true, true, false, false, false, false, false, false, false, false, false, false, false]) (d := some 46) rfl (by kernel_rfl) (by kernel_rfl) (by kernel_rfl) (by kernel_rfl) ?_ rfl rfl ?_ ?_
              rotate_left
              · go_simp; try rfl
              rotate_left
              · simp only [Act.put]; exact rfl
              refine CalmV.take (i := 9) (v := ?_) (a' := ?_) (l' := #[true, true, true, true, true, true, true, true, true, true, false, false, false, false, false, false, false, false, false, false]) (d := some 47) rfl (by kernel_rfl) (by kernel_rfl) (by kernel_rfl) (by kernel_rfl) ?_ rfl rfl ?_ ?_
              rotate_left
              · go_simp; try rfl
              rotate_left
              · simp only [Act.put]; exact rfl
              refine CalmV.take (i := 10) (v := ?_) (a' := ?_) (l' := #[true, true, true, true, true, true, true, true, true, true, true, false, false, false, false, false, false, false, false, false]) (d := some 48) rfl (by kernel_rfl) (by kernel_rfl) (by kernel_rfl) rfl ?_ rfl rfl ?_ ?_
              rotate_left
              · go_simp; try rfl
              rotate_left
              · simp only [Act.put]; exact rfl
              refine CalmV.take (i := 11) (v := ?_) (a' := ?_) (l' := #[true, true, true, true, true, true, true, true, true, true, true, true, false, false, false, false, false, false, false, false]) (d := some 49) rfl (by kernel_rfl) (by kernel_rfl) (by kernel_rfl) rfl ?_ rfl rfl ?_ ?_
              rotate_left
              · go_simp; try rfl
              rotate_left
              · simp only [Act.put]; exact rfl
              refine CalmV.take (i := 12) (v := ?_) (a' := ?_) (l' := #[true, true, true, true, true, true, true, true, true, true, true, true, true, false, false, false, false, false, false, false]) (d := some 50) rfl (by kernel_rfl) (by kernel_rfl) (by kernel_rfl) (by kernel_rfl) ?_ rfl rfl ?_ ?_
              rotate_left
              · go_simp; try rfl
              rotate_left
              · simp only [Act.put]; exact rfl
              refine CalmV.take (i := 13) (v := ?_) (a' := ?_) (l' := #[true, true, true, true, true, true, true, true, true, true, true, true, true, true, false, false, false, false, false, false]) (d := some 51) rfl (by kernel_rfl) (by kernel_rfl) (by kernel_rfl) (by kernel_rfl) ?_ rfl rfl ?_ ?_
              rotate_left
              · go_simp; try rfl
              rotate_left
              · simp only [Act.put]; exact rfl
              refine CalmV.take (i := 14) (v := ?_) (a' := ?_) (l' := #[true, true, true, true, true, true, true, true, true, true, true, true, true, true, true, false, false, false, false, false]) (d := some 52) rfl (by kernel_rfl) (by kernel_rfl) (by kernel_rfl) (by kernel_rfl) ?_ rfl rfl ?_ ?_
              rotate_left
              · go_simp; try rfl
              rotate_left
              · simp only [Act.put]; exact rfl
              refine CalmV.take (i := 15) (v := ?_) (a' := ?_) (l' := #[true, true, true, true, true, true, true, true, true, true, true, true, true, true, true, true, false, false, false, false]) (d := some 53) rfl (by kernel_rfl) (by kernel_rfl) (by kernel_rfl) (by kernel_rfl) ?_ rfl rfl ?_ ?_
              rotate_left
              · go_simp; try rfl
              rotate_left
              · simp only [Act.put]; exact rfl
              refine CalmV.take (i := 16) (v := ?_) (a' := ?_) (l' := #[true, true, true, true, true, true, true, true, true, true, true, true, true, true, true, true, true, false, false, false]) (d := some 54) rfl (by kernel_rfl) (by kernel_rfl) (by kernel_rfl) (by kernel_rfl) ?_ rfl rfl ?_ ?_
              rotate_left
              · go_simp; try rfl
              rotate_left
              · simp only [Act.put]; exact rfl
              refine CalmV.take (i := 17) (v := ?_) (a' := ?_) (l' := #[true, true, true, true, true, true, true, true, true, true, true, true, true, true, true, true, true, true, false, false]) (d := some 55) rfl (by kernel_rfl) (by kernel_rfl) (by kernel_rfl) (by kernel_rfl) ?_ rfl rfl ?_ ?_
              rotate_left
              · go_simp; try rfl
              rotate_left
              · simp only [Act.put]; exact rfl
              refine CalmV.take (i := 18) (v := ?_) (a' := ?_) (l' := #[true, true, true, true, true, true, true, true, true, true, true, true, true, true, true, true, true, true, true, false]) (d := some 56) rfl (by kernel_rfl) (by kernel_rfl) (by kernel_rfl) (by kernel_rfl) ?_ rfl rfl ?_ ?_
              rotate_left
              · go_simp; try rfl
              rotate_left
              · simp only [Act.put]; exact rfl
              refine CalmV.take (i := 19) (v := ?_) (a' := ?_) (l' := #[true, true, true, true, true, true, true, true, true, true, true, true, true, true, true, true, true, true, true, true]) (d := some 57) rfl (by kernel_rfl) (by kernel_rfl) (by kernel_rfl) rfl ?_ rfl rfl ?_ ?_
              rotate_left
              · go_simp; try rfl
              rotate_left
              · simp only [Act.put]; exact rfl
              refine CalmV.done (by kernel_rfl) ?_
              try simp only [List.setIfInBounds_toArray, List.set_cons_succ, List.set_cons_zero]
              clear y0 y1 y2 y3 y4 z0 z1 z2 z3 z4 hp2
              replace HS := hide (sb_drew HS.out)
              replace HI' := hide (bx_drew HI'.out)
              gi_wp2
              exact ⟨((ko_drew W).trans (KeepsOthers.setCell _ _ _)).from _, (keeps_drew W).trans (((SameBut.refl _ W.drew).set _).keeps (by have := LWI13.out; omega) (by have := HS.out.base.size; have := HW.out.size; omega)), by rw [List.length_append, List.length_singleton, ← HM.out]; exact HI'.out.set _, HS.out.set _⟩
            · rcases ins_ne hxy with e | ⟨e1, e⟩ | ⟨e1, e2, e⟩ | ⟨e1, e2, e3, e⟩ | ⟨e1, e2, e3, e4, e⟩
              · have q0 : (xi.op == y.op) = false := by simp [e]
                clear e
                gi_wp2
                refine wp_calmV (n := 20) (by kernel_rfl) (by kernel_rfl) rfl rfl ?_
                refine CalmV.take (i := 0) (v := ?_) (a' := ?_) (l' := #[true, false, false, false, false, false, false, false, false, false, false, false, false, false, false, false, false, false, false, false]) (d := some 38) rfl (by kernel_rfl) (by kernel_rfl) (by kernel_rfl) rfl ?_ rfl rfl ?_ ?_
                rotate_left
                · go_simp; try rfl
                rotate_left
                · simp only [Act.put]; exact rfl
                refine CalmV.take (i := 1) (v := ?_) (a' := ?_) (l' := #[true, true, false, false, false, false, false, false, false, false, false, false, false, false, false, false, false, false, false, false]) (d := some 39) rfl (by kernel_rfl) (by kernel_rfl) (by kernel_rfl) rfl ?_ rfl rfl ?_ ?_
                rotate_left
                · go_simp; try rfl
                rotate_left
                · simp only [Act.put]; exact rfl
                refine CalmV.take (i := 2) (v := ?_) (a' := ?_) (l' := #[true, true, true, false, false, false, false, false, false, false, false, false, false, false, false, false, false, false, false, false]) (d := some 40) rfl (by kernel_rfl) (by kernel_rfl) (by kernel_rfl) rfl ?_ rfl rfl ?_ ?_
                rotate_left
                · go_simp; try rfl
                rotate_left
                · simp only [Act.put]; exact rfl
                refine CalmV.take (i := 3) (v := ?_) (a' := ?_) (l' := #[true, true, true, true, false, false, false, false, false, false, false, false, false, false, false, false, false, false, false, false]) (d := some 41) rfl (by kernel_rfl) (by kernel_rfl) (by kernel_rfl) rfl ?_ rfl rfl ?_ ?_
                rotate_left
                · go_simp; try rfl
                rotate_left
                · simp only [Act.put]; exact rfl
                refine CalmV.take (i := 4) (v := ?_) (a' := ?_) (l' := #[true, true, true, true, true, false, false, false, false, false, false, false, false, false, false, false, false, false, false, false]) (d := some 42) rfl (by kernel_rfl) (by kernel_rfl) (by kernel_rfl) (by kernel_rfl) ?_ rfl rfl ?_ ?_
                rotate_left
                · go_simp; try rfl
                rotate_left
                · simp only [Act.put]; exact rfl
                refine CalmV.take (i := 5) (v := ?_) (a' := ?_) (l' := #[true, true, true, true, true, true, false, false, false, false, false, false, false, false, false, false, false, false, false, false]) (d := some 43) rfl (by kernel_rfl) (by kernel_rfl) (by kernel_rfl) (by kernel_rfl) ?_ rfl rfl ?_ ?_
                rotate_left
                · go_simp; try rfl
                rotate_left
                · simp only [Act.put]; exact rfl
                refine CalmV.take (i := 6) (v := ?_) (a' := ?_) (l' := #[true, true, true, true, true, true, true, false, false, false, false, false, false, false, false, false, false, false, false, false]) (d := some 44) rfl (by kernel_rfl) (by kernel_rfl) (by kernel_rfl) (by kernel_rfl) ?_ rfl rfl ?_ ?_
                rotate_left
                · go_simp; try rfl
                rotate_left
                · simp only [Act.put]; exact rfl
                refine CalmV.take (i := 7) (v := ?_) (a' := ?_) (l' := #[true, true, true, true, true, true, true, true, false, false, false, false, false, false, false, false, false, false, false, false]) (d := some 45) rfl (by kernel_rfl) (by kernel_rfl) (by kernel_rfl) (by kernel_rfl) ?_ rfl rfl ?_ ?_
                rotate_left
                · go_simp; try rfl
                rotate_left
                · simp only [Act.put]; exact rfl
                refine CalmV.take (i := 8) (v := ?_) (a' := ?_) (l' := #[true, true, true, true, true, true, true, true, true, false, false, false, false, false, false, false, false, false, false, false]) (d := some 46) rfl (by kernel_rfl) (by kernel_rfl) (by kernel_rfl) (by kernel_rfl) ?_ rfl rfl ?_ ?_
                rotate_left
                · go_simp; try rfl
                rotate_left
                · simp only [Act.put]; exact rfl
                refine CalmV.take (i := 9) (v := ?_) (a' := ?_) (l' := #[true, true, true, true, true, true, true, true, true, true, false, false, false, false, false, false, false, false, false, false]) (d := some 47) rfl (by kernel_rfl) (by kernel_rfl) (by kernel_rfl) (by kernel_rfl) ?_ rfl rfl ?_ ?_
                rotate_left
                · go_simp; try rfl
                rotate_left
                · simp only [Act.put]; exact rfl
                refine CalmV.take (i := 10) (v := ?_) (a' := ?_) (l' := #[true, true, true, true, true, true, true, true, true, true, true, false, false, false, false, false, false, false, false, false]) (d := some 48) rfl (by kernel_rfl) (by kernel_rfl) (by kernel_rfl) rfl ?_ rfl rfl ?_ ?_
                rotate_left
                · go_simp; try rfl
                rotate_left
                · simp only [Act.put]; exact rfl
                refine CalmV.take (i := 11) (v := ?_) (a' := ?_) (l' := #[true, true, true, true, true, true, true, true, true, true, true, true, false, false, false, false, false, false, false, false]) (d := some 49) rfl (by kernel_rfl) (by kernel_rfl) (by kernel_rfl) rfl ?_ rfl rfl ?_ ?_
                rotate_left
                · go_simp; try rfl
                rotate_left
                · simp only [Act.put]; exact rfl
                refine CalmV.take (i := 12) (v := ?_) (a' := ?_) (l' := #[true, true, true, true, true, true, true, true, true, true, true, true, true, false, false, false, false, false, false, false]) (d := some 50) rfl (by kernel_rfl) (by kernel_rfl) (by kernel_rfl) (by kernel_rfl) ?_ rfl rfl ?_ ?_
                rotate_left
                · go_simp; try rfl
                rotate_left
                · simp only [Act.put]; exact rfl
                refine CalmV.take (i := 13) (v := ?_) (a' := ?_) (l' := #[true, true, true, true, true, true, true, true, true, true, true, true, true, true, false, false, false, false, false, false]) (d := some 51) rfl (by kernel_rfl) (by kernel_rfl) (by kernel_rfl) (by kernel_rfl) ?_ rfl rfl ?_ ?_
                rotate_left
                · go_simp; try rfl
                rotate_left
                · simp only [Act.put]; exact rfl
                refine CalmV.take (i := 14) (v := ?_) (a' := ?_) (l' := #[true, true, true, true, true, true, true, true, true, true, true, true, true, true, true, false, false, false, false, false]) (d := some 52) rfl (by kernel_rfl) (by kernel_rfl) (by kernel_rfl) (by kernel_rfl) ?_ rfl rfl ?_ ?_
                rotate_left
                · go_simp; try rfl
                rotate_left
                · simp only [Act.put]; exact rfl
                refine CalmV.take (i := 15) (v := ?_) (a' := ?_) (l' := #[true, true, true, true, true, true, true, true, true, true, true, true, true, true, true, true, false, false, false, false]) (d := some 53) rfl (by kernel_rfl) (by kernel_rfl) (by kernel_rfl) (by kernel_rfl) ?_ rfl rfl ?_ ?_
                rotate_left
                · go_simp; try rfl
                rotate_left
                · simp only [Act.put]; exact rfl
                refine CalmV.take (i := 16) (v := ?_) (a' := ?_) (l' := #[true, true, true, true, true, true, true, true, true, true, true, true, true, true, true, true, true, false, false, false]) (d := some 54) rfl (by kernel_rfl) (by kernel_rfl) (by kernel_rfl) (by kernel_rfl) ?_ rfl rfl ?_ ?_
                rotate_left
                · go_simp; try rfl
                rotate_left
                · simp only [Act.put]; exact rfl
                refine CalmV.take (i := 17) (v := ?_) (a' := ?_) (l' := #[true, true, true, true, true, true, true, true, true, true, true, true, true, true, true, true, true, true, false, false]) (d := some 55) rfl (by kernel_rfl) (by kernel_rfl) (by kernel_rfl) (by kernel_rfl) ?_ rfl rfl ?_ ?_
                rotate_left
                · go_simp; try rfl
                rotate_left
                · simp only [Act.put]; exact rfl
                refine CalmV.take (i := 18) (v := ?_) (a' := ?_) (l' := #[true, true, true, true, true, true, true, true, true, true, true, true, true, true, true, true, true, true, true, false]) (d := some 56) rfl (by kernel_rfl) (by kernel_rfl) (by kernel_rfl) (by kernel_rfl) ?_ rfl rfl ?_ ?_
                rotate_left
                · go_simp; try rfl
                rotate_left
                · simp only [Act.put]; exact rfl
                refine CalmV.take (i := 19) (v := ?_) (a' := ?_) (l' := #[true, true, true, true, true, true, true, true, true, true, true, true, true, true, true, true, true, true, true, true]) (d := some 57) rfl (by kernel_rfl) (by kernel_rfl) (by kernel_rfl) rfl ?_ rfl rfl ?_ ?_
                rotate_left
                · go_simp; try rfl
                rotate_left
                · simp only [Act.put]; exact rfl
                refine CalmV.done (by kernel_rfl) ?_
                try simp only [List.setIfInBounds_toArray, List.set_cons_succ, List.set_cons_zero]
                clear y0 y1 y2 y3 y4 z0 z1 z2 z3 z4 hp2
                replace HS := hide (sb_drew HS.out)
                replace HI' := hide (bx_drew HI'.out)
                gi_wp2
                refine ⟨((ko_drew W).trans (KeepsOthers.setCell _ _ _)).from _, ?_⟩
                exact ⟨fun _ => ⟨pre, _, rfl, by rw [CE.out, ← HN.out, ← HM.out]; exact hlt, fun e => hxy (by have := (Prod.mk.inj e).2; rw [this, HY.out, CE.out]; congr 1; rw [HK.out, ← HN.out, ← HM.out])⟩, fun h => absurd rfl h⟩
              · have q1 : (xi.to == y.to) = false := by simp [e]
                rw [e1] at y0
                clear e e1
                gi_wp2
                refine wp_calmV (n := 20) (by kernel_rfl) (by kernel_rfl) rfl rfl ?_
                refine CalmV.take (i := 0) (v := ?_) (a' := ?_) (l' := #[true, false, false, false, false, false, false, false, false, false, false, false, false, false, false, false, false, false, false, false]) (d := some 38) rfl (by kernel_rfl) (by kernel_rfl) (by kernel_rfl) rfl ?_ rfl rfl ?_ ?_
                rotate_left
                · go_simp; try rfl
                rotate_left
                · simp only [Act.put]; exact rfl
                refine CalmV.take (i := 1) (v := ?_) (a' := ?_) (l' := #[true, true, false, false, false, false, false, false, false, false, false, false, false, false, false, false, false, false, false, false]) (d := some 39) rfl (by kernel_rfl) (by kernel_rfl) (by kernel_rfl) rfl ?_ rfl rfl ?_ ?_
                rotate_left
                · go_simp; try rfl
                rotate_left
                · simp only [Act.put]; exact rfl
                refine CalmV.take (i := 2) (v := ?_) (a' := ?_) (l' := #[true, true, true, false, false, false, false, false, false, false, false, false, false, false, false, false, false, false, false, false]) (d := some 40) rfl (by kernel_rfl) (by kernel_rfl) (by kernel_rfl) rfl ?_ rfl rfl ?_ ?_
                rotate_left
                · go_simp; try rfl
                rotate_left
                · simp only [Act.put]; exact rfl
                refine CalmV.take (i := 3) (v := ?_) (a' := ?_) (l' := #[true, true, true, true, false, false, false, false, false, false, false, false, false, false, false, false, false, false, false, false]) (d := some 41) rfl (by kernel_rfl) (by kernel_rfl) (by kernel_rfl) rfl ?_ rfl rfl ?_ ?_
                rotate_left
                · go_simp; try rfl
                rotate_left
                · simp only [Act.put]; exact rfl
                refine CalmV.take (i := 4) (v := ?_) (a' := ?_) (l' := #[true, true, true, true, true, false, false, false, false, false, false, false, false, false, false, false, false, false, false, false]) (d := some 42) rfl (by kernel_rfl) (by kernel_rfl) (by kernel_rfl) (by kernel_rfl) ?_ rfl rfl ?_ ?_
                rotate_left
                · go_simp; try rfl
                rotate_left
                · simp only [Act.put]; exact rfl
                refine CalmV.take (i := 5) (v := ?_) (a' := ?_) (l' := #[true, true, true, true, true, true, false, false, false, false, false, false, false, false, false, false, false, false, false, false]) (d := some 43) rfl (by kernel_rfl) (by kernel_rfl) (by kernel_rfl) (by kernel_rfl) ?_ rfl rfl ?_ ?_
                rotate_left
                · go_simp; try rfl
                rotate_left
                · simp only [Act.put]; exact rfl
                refine CalmV.take (i := 6) (v := ?_) (a' := ?_) (l' := #[true, true, true, true, true, true, true, false, false, false, false, false, false, false, false, false, false, false, false, false]) (d := some 44) rfl (by kernel_rfl) (by kernel_rfl) (by kernel_rfl) (by kernel_rfl) ?_ rfl rfl ?_ ?_
                rotate_left
                · go_simp; try rfl
                rotate_left
                · simp only [Act.put]; exact rfl
                refine CalmV.take (i := 7) (v := ?_) (a' := ?_) (l' := #[true, true, true, true, true, true, true, true, false, false, false, false, false, false, false, false, false, false, false, false]) (d := some 45) rfl (by kernel_rfl) (by kernel_rfl) (by kernel_rfl) (by kernel_rfl) ?_ rfl rfl ?_ ?_
                rotate_left
                · go_simp; try rfl
                rotate_left
                · simp only [Act.put]; exact rfl
                refine CalmV.take (i := 8) (v := ?_) (a' := ?_) (l' := #[true, true, true, true, true, true, true, true, true, false, false, false, false, false, false, false, false, false, false, false]) (d := some 46) rfl (by kernel_rfl) (by kernel_rfl) (by kernel_rfl) (by kernel_rfl) ?_ rfl rfl ?_ ?_
                rotate_left
                · go_simp; try rfl
                rotate_left
                · simp only [Act.put]; exact rfl
                refine CalmV.take (i := 9) (v := ?_) (a' := ?_) (l' := #[true, true, true, true, true, true, true, true, true, true, false, false, false, false, false, false, false, false, false, false]) (d := some 47) rfl (by kernel_rfl) (by kernel_rfl) (by kernel_rfl) (by kernel_rfl) ?_ rfl rfl ?_ ?_
                rotate_left
                · go_simp; try rfl
                rotate_left
                · simp only [Act.put]; exact rfl
                refine CalmV.take (i := 10) (v := ?_) (a' := ?_) (l' := #[true, true, true, true, true, true, true, true, true, true, true, false, false, false, false, false, false, false, false, false]) (d := some 48) rfl (by kernel_rfl) (by kernel_rfl) (by kernel_rfl) rfl ?_ rfl rfl ?_ ?_
                rotate_left
                · go_simp; try rfl
                rotate_left
                · simp only [Act.put]; exact rfl
                refine CalmV.take (i := 11) (v := ?_) (a' := ?_) (l' := #[true, true, true, true, true, true, true, true, true, true, true, true, false, false, false, false, false, false, false, false]) (d := some 49) rfl (by kernel_rfl) (by kernel_rfl) (by kernel_rfl) rfl ?_ rfl rfl ?_ ?_
                rotate_left
                · go_simp; try rfl
                rotate_left
                · simp only [Act.put]; exact rfl
                refine CalmV.take (i := 12) (v := ?_) (a' := ?_) (l' := #[true, true, true, true, true, true, true, true, true, true, true, true, true, false, false, false, false, false, false, false]) (d := some 50) rfl (by kernel_rfl) (by kernel_rfl) (by kernel_rfl) (by kernel_rfl) ?_ rfl rfl ?_ ?_
                rotate_left
                · go_simp; try rfl
                rotate_left
                · simp only [Act.put]; exact rfl
                refine CalmV.take (i := 13) (v := ?_) (a' := ?_) (l' := #[true, true, true, true, true, true, true, true, true, true, true, true, true, true, false, false, false, false, false, false]) (d := some 51) rfl (by kernel_rfl) (by kernel_rfl) (by kernel_rfl) (by kernel_rfl) ?_ rfl rfl ?_ ?_
                rotate_left
                · go_simp; try rfl
                rotate_left
                · simp only [Act.put]; exact rfl
                refine CalmV.take (i := 14) (v := ?_) (a' := ?_) (l' := #[true, true, true, true, true, true, true, true, true, true, true, true, true, true, true, false, false, false, false, false]) (d := some 52) rfl (by kernel_rfl) (by kernel_rfl) (by kernel_rfl) (by kernel_rfl) ?_ rfl rfl ?_ ?_
                rotate_left
                · go_simp; try rfl
                rotate_left
                · simp only [Act.put]; exact rfl
                refine CalmV.take (i := 15) (v := ?_) (a' := ?_) (l' := #[true, true, true, true, true, true, true, true, true, true, true, true, true, true, true, true, false, false, false, false]) (d := some 53) rfl (by kernel_rfl) (by kernel_rfl) (by kernel_rfl) (by kernel_rfl) ?_ rfl rfl ?_ ?_
                rotate_left
                · go_simp; try rfl
                rotate_left
                · simp only [Act.put]; exact rfl
                refine CalmV.take (i := 16) (v := ?_) (a' := ?_) (l' := #[true, true, true, true, true, true, true, true, true, true, true, true, true, true, true, true, true, false, false, false]) (d := some 54) rfl (by kernel_rfl) (by kernel_rfl) (by kernel_rfl) (by kernel_rfl) ?_ rfl rfl ?_ ?_
                rotate_left
                · go_simp; try rfl
                rotate_left
                · simp only [Act.put]; exact rfl
                refine CalmV.take (i := 17) (v := ?_) (a' := ?_) (l' := #[true, true, true, true, true, true, true, true, true, true, true, true, true, true, true, true, true, true, false, false]) (d := some 55) rfl (by kernel_rfl) (by kernel_rfl) (by kernel_rfl) (by kernel_rfl) ?_ rfl rfl ?_ ?_
                rotate_left
                · go_simp; try rfl
                rotate_left
                · simp only [Act.put]; exact rfl
                refine CalmV.take (i := 18) (v := ?_) (a' := ?_) (l' := #[true, true, true, true, true, true, true, true, true, true, true, true, true, true, true, true, true, true, true, false]) (d := some 56) rfl (by kernel_rfl) (by kernel_rfl) (by kernel_rfl) (by kernel_rfl) ?_ rfl rfl ?_ ?_
                rotate_left
                · go_simp; try rfl
                rotate_left
                · simp only [Act.put]; exact rfl
                refine CalmV.take (i := 19) (v := ?_) (a' := ?_) (l' := #[true, true, true, true, true, true, true, true, true, true, true, true, true, true, true, true, true, true, true, true]) (d := some 57) rfl (by kernel_rfl) (by kernel_rfl) (by kernel_rfl) rfl ?_ rfl rfl ?_ ?_
                rotate_left
                · go_simp; try rfl
                rotate_left
                · simp only [Act.put]; exact rfl
                refine CalmV.done (by kernel_rfl) ?_
                try simp only [List.setIfInBounds_toArray, List.set_cons_succ, List.set_cons_zero]
                clear y0 y1 y2 y3 y4 z0 z1 z2 z3 z4 hp2
                replace HS := hide (sb_drew HS.out)
                replace HI' := hide (bx_drew HI'.out)
                gi_wp2
                refine ⟨((ko_drew W).trans (KeepsOthers.setCell _ _ _)).from _, ?_⟩
                exact ⟨fun _ => ⟨pre, _, rfl, by rw [CE.out, ← HN.out, ← HM.out]; exact hlt, fun e => hxy (by have := (Prod.mk.inj e).2; rw [this, HY.out, CE.out]; congr 1; rw [HK.out, ← HN.out, ← HM.out])⟩, fun h => absurd rfl h⟩
              · have q2 : (xi.a == y.a) = false := by simp [e]
                rw [e1] at y0
                rw [e2] at y1
                clear e e1 e2
                gi_wp2
                refine wp_calmV (n := 20) (by kernel_rfl) (by kernel_rfl) rfl rfl ?_
                refine CalmV.take (i := 0) (v := ?_) (a' := ?_) (l' := #[true, false, false, false, false, false, false, false, false, false, false, false, false, false, false, false, false, false, false, false]) (d := some 38) rfl (by kernel_rfl) (by kernel_rfl) (by kernel_rfl) rfl ?_ rfl rfl ?_ ?_
                rotate_left
                · go_simp; try rfl
                rotate_left
                · simp only [Act.put]; exact rfl
                refine CalmV.take (i := 1) (v := ?_) (a' := ?_) (l' := #[true, true, false, false, false, false, false, false, false, false, false, false, false, false, false, false, false, false, false, false]) (d := some 39) rfl (by kernel_rfl) (by kernel_rfl) (by kernel_rfl) rfl ?_ rfl rfl ?_ ?_
                rotate_left
                · go_simp; try rfl
                rotate_left
                · simp only [Act.put]; exact rfl
                refine CalmV.take (i := 2) (v := ?_) (a' := ?_) (l' := #[true, true, true, false, false, false, false, false, false, false, false, false, false, false, false, false, false, false, false, false]) (d := some 40) rfl (by kernel_rfl) (by kernel_rfl) (by kernel_rfl) rfl ?_ rfl rfl ?_ ?_
                rotate_left
                · go_simp; try rfl
                rotate_left
                · simp only [Act.put]; exact rfl
                refine CalmV.take (i := 3) (v := ?_) (a' := ?_) (l' := #[true, true, true, true, false, false, false, false, false, false, false, false, false, false, false, false, false, false, false, false]) (d := some 41) rfl (by kernel_rfl) (by kernel_rfl) (by kernel_rfl) rfl ?_ rfl rfl ?_ ?_
                rotate_left
                · go_simp; try rfl
                rotate_left
                · simp only [Act.put]; exact rfl
                refine CalmV.take (i := 4) (v := ?_) (a' := ?_) (l' := #[true, true, true, true, true, false, false, false, false, false, false, false, false, false, false, false, false, false, false, false]) (d := some 42) rfl (by kernel_rfl) (by kernel_rfl) (by kernel_rfl) (by kernel_rfl) ?_ rfl rfl ?_ ?_
                rotate_left
                · go_simp; try rfl
                rotate_left
                · simp only [Act.put]; exact rfl
                refine CalmV.take (i := 5) (v := ?_) (a' := ?_) (l' := #[true, true, true, true, true, true, false, false, false, false, false, false, false, false, false, false, false, false, false, false]) (d := some 43) rfl (by kernel_rfl) (by kernel_rfl) (by kernel_rfl) (by kernel_rfl) ?_ rfl rfl ?_ ?_
                rotate_left
                · go_simp; try rfl
                rotate_left
                · simp only [Act.put]; exact rfl
                refine CalmV.take (i := 6) (v := ?_) (a' := ?_) (l' := #[true, true, true, true, true, true, true, false, false, false, false, false, false, false, false, false, false, false, false, false]) (d := some 44) rfl (by kernel_rfl) (by kernel_rfl) (by kernel_rfl) (by kernel_rfl) ?_ rfl rfl ?_ ?_
                rotate_left
                · go_simp; try rfl
                rotate_left
                · simp only [Act.put]; exact rfl
                refine CalmV.take (i := 7) (v := ?_) (a' := ?_) (l' := #[true, true, true, true, true, true, true, true, false, false, false, false, false, false, false, false, false, false, false, false]) (d := some 45) rfl (by kernel_rfl) (by kernel_rfl) (by kernel_rfl) (by kernel_rfl) ?_ rfl rfl ?_ ?_
                rotate_left
                · go_simp; try rfl
                rotate_left
                · simp only [Act.put]; exact rfl
                refine CalmV.take (i := 8) (v := ?_) (a' := ?_) (l' := #[true, true, true, true, true, true, true, true, true, false, false, false, false, false, false, false, false, false, false, false]) (d := some 46) rfl (by kernel_rfl) (by kernel_rfl) (by kernel_rfl) (by kernel_rfl) ?_ rfl rfl ?_ ?_
                rotate_left
                · go_simp; try rfl
                rotate_left
                · simp only [Act.put]; exact rfl
                refine CalmV.take (i := 9) (v := ?_) (a' := ?_) (l' := #[true, true, true, true, true, true, true, true, true, true, false, false, false, false, false, false, false, false, false, false]) (d := some 47) rfl (by kernel_rfl) (by kernel_rfl) (by kernel_rfl) (by kernel_rfl) ?_ rfl rfl ?_ ?_
                rotate_left
                · go_simp; try rfl
                rotate_left
                · simp only [Act.put]; exact rfl
                refine CalmV.take (i := 10) (v := ?_) (a' := ?_) (l' := #[true, true, true, true, true, true, true, true, true, true, true, false, false, false, false, false, false, false, false, false]) (d := some 48) rfl (by kernel_rfl) (by kernel_rfl) (by kernel_rfl) rfl ?_ rfl rfl ?_ ?_
                rotate_left
                · go_simp; try rfl
                rotate_left
                · simp only [Act.put]; exact rfl
                refine CalmV.take (i := 11) (v := ?_) (a' := ?_) (l' := #[true, true, true, true, true, true, true, true, true, true, true, true, false, false, false, false, false, false, false, false]) (d := some 49) rfl (by kernel_rfl) (by kernel_rfl) (by kernel_rfl) rfl ?_ rfl rfl ?_ ?_
                rotate_left
                · go_simp; try rfl
                rotate_left
                · simp only [Act.put]; exact rfl
                refine CalmV.take (i := 12) (v := ?_) (a' := ?_) (l' := #[true, true, true, true, true, true, true, true, true, true, true, true, true, false, false, false, false, false, false, false]) (d := some 50) rfl (by kernel_rfl) (by kernel_rfl) (by kernel_rfl) (by kernel_rfl) ?_ rfl rfl ?_ ?_
                rotate_left
                · go_simp; try rfl
                rotate_left
                · simp only [Act.put]; exact rfl
                refine CalmV.take (i := 13) (v := ?_) (a' := ?_) (l' := #[true, true, true, true, true, true, true, true, true, true, true, true, true, true, false, false, false, false, false, false]) (d := some 51) rfl (by kernel_rfl) (by kernel_rfl) (by kernel_rfl) (by kernel_rfl) ?_ rfl rfl ?_ ?_
                rotate_left
                · go_simp; try rfl
                rotate_left
                · simp only [Act.put]; exact rfl
                refine CalmV.take (i := 14) (v := ?_) (a' := ?_) (l' := #[true, true, true, true, true, true, true, true, true, true, true, true, true, true, true, false, false, false, false, false]) (d := some 52) rfl (by kernel_rfl) (by kernel_rfl) (by kernel_rfl) (by kernel_rfl) ?_ rfl rfl ?_ ?_
                rotate_left
                · go_simp; try rfl
                rotate_left
                · simp only [Act.put]; exact rfl
                refine CalmV.take (i := 15) (v := ?_) (a' := ?_) (l' := #[true, true, true, true, true, true, true, true, true, true, true, true, true, true, true, true, false, false, false, false]) (d := some 53) rfl (by kernel_rfl) (by kernel_rfl) (by kernel_rfl) (by kernel_rfl) ?_ rfl rfl ?_ ?_
                rotate_left
                · go_simp; try rfl
                rotate_left
                · simp only [Act.put]; exact rfl
                refine CalmV.take (i := 16) (v := ?_) (a' := ?_) (l' := #[true, true, true, true, true, true, true, true, true, true, true, true, true, true, true, true, true, false, false, false]) (d := some 54) rfl (by kernel_rfl) (by kernel_rfl) (by kernel_rfl) (by kernel_rfl) ?_ rfl rfl ?_ ?_
                rotate_left
                · go_simp; try rfl
                rotate_left
                · simp only [Act.put]; exact rfl
                refine CalmV.take (i := 17) (v := ?_) (a' := ?_) (l' := #[true, true, true, true, true, true, true, true, true, true, true, true, true, true, true, true, true, true, false, false]) (d := some 55) rfl (by kernel_rfl) (by kernel_rfl) (by kernel_rfl) (by kernel_rfl) ?_ rfl rfl ?_ ?_
                rotate_left
                · go_simp; try rfl
                rotate_left
                · simp only [Act.put]; exact rfl
                refine CalmV.take (i := 18) (v := ?_) (a' := ?_) (l' := #[true, true, true, true, true, true, true, true, true, true, true, true, true, true, true, true, true, true, true, false]) (d := some 56) rfl (by kernel_rfl) (by kernel_rfl) (by kernel_rfl) (by kernel_rfl) ?_ rfl rfl ?_ ?_
                rotate_left
                · go_simp; try rfl
                rotate_left
                · simp only [Act.put]; exact rfl
                refine CalmV.take (i := 19) (v := ?_) (a' := ?_) (l' := #[true, true, true, true, true, true, true, true, true, true, true, true, true, true, true, true, true, true, true, true]) (d := some 57) rfl (by kernel_rfl) (by kernel_rfl) (by kernel_rfl) rfl ?_ rfl rfl ?_ ?_
                rotate_left
                · go_simp; try rfl
                rotate_left
                · simp only [Act.put]; exact rfl
                refine CalmV.done (by kernel_rfl) ?_
                try simp only [List.setIfInBounds_toArray, List.set_cons_succ, List.set_cons_zero]
                clear y0 y1 y2 y3 y4 z0 z1 z2 z3 z4 hp2
                replace HS := hide (sb_drew HS.out)
                replace HI' := hide (bx_drew HI'.out)
                gi_wp2
                refine ⟨((ko_drew W).trans (KeepsOthers.setCell _ _ _)).from _, ?_⟩
                exact ⟨fun _ => ⟨pre, _, rfl, by rw [CE.out, ← HN.out, ← HM.out]; exact hlt, fun e => hxy (by have := (Prod.mk.inj e).2; rw [this, HY.out, CE.out]; congr 1; rw [HK.out, ← HN.out, ← HM.out])⟩, fun h => absurd rfl h⟩
              · have q3 : (xi.b == y.b) = false := by simp [e]
                rw [e1] at y0
                rw [e2] at y1
                rw [e3] at y2
                clear e e1 e2 e3
                gi_wp2
                refine wp_calmV (n := 20) (by kernel_rfl) (by kernel_rfl) rfl rfl ?_
                refine CalmV.take (i := 0) (v := ?_) (a' := ?_) (l' := #[true, false, false, false, false, false, false, false, false, false, false, false, false, false, false, false, false, false, false, false]) (d := some 38) rfl (by kernel_rfl) (by kernel_rfl) (by kernel_rfl) rfl ?_ rfl rfl ?_ ?_
                rotate_left
                · go_simp; try rfl
                rotate_left
                · simp only [Act.put]; exact rfl
                refine CalmV.take (i := 1) (v := ?_) (a' := ?_) (l' := #[true, true, false, false, false, false, false, false, false, false, false, false, false, false, false, false, false, false, false, false]) (d := some 39) rfl (by kernel_rfl) (by kernel_rfl) (by kernel_rfl) rfl ?_ rfl rfl ?_ ?_
                rotate_left
                · go_simp; try rfl
                rotate_left
                · simp only [Act.put]; exact rfl
                refine CalmV.take (i := 2) (v := ?_) (a' := ?_) (l' := #[true, true, true, false, false, false, false, false, false, false, false, false, false, false, false, false, false, false, false, false]) (d := some 40) rfl (by kernel_rfl) (by kernel_rfl) (by kernel_rfl) rfl ?_ rfl rfl ?_ ?_
                rotate_left
                · go_simp; try rfl
                rotate_left
                · simp only [Act.put]; exact rfl
                refine CalmV.take (i := 3) (v := ?_) (a' := ?_) (l' := #[true, true, true, true, false, false, false, false, false, false, false, false, false, false, false, false, false, false, false, false]) (d := some 41) rfl (by kernel_rfl) (by kernel_rfl) (by kernel_rfl) rfl ?_ rfl rfl ?_ ?_
                rotate_left
                · go_simp; try rfl
                rotate_left
                · simp only [Act.put]; exact rfl
                refine CalmV.take (i := 4) (v := ?_) (a' := ?_) (l' := #[true, true, true, true, true, false, false, false, false, false, false, false, false, false, false, false, false, false, false, false]) (d := some 42) rfl (by kernel_rfl) (by kernel_rfl) (by kernel_rfl) (by kernel_rfl) ?_ rfl rfl ?_ ?_
                rotate_left
                · go_simp; try rfl
                rotate_left
                · simp only [Act.put]; exact rfl
                refine CalmV.take (i := 5) (v := ?_) (a' := ?_) (l' := #[true, true, true, true, true, true, false, false, false, false, false, false, false, false, false, false, false, false, false, false]) (d := some 43) rfl (by kernel_rfl) (by kernel_rfl) (by kernel_rfl) (by kernel_rfl) ?_ rfl rfl ?_ ?_
                rotate_left
                · go_simp; try rfl
                rotate_left
                · simp only [Act.put]; exact rfl
                refine CalmV.take (i := 6) (v := ?_) (a' := ?_) (l' := #[true, true, true, true, true, true, true, false, false, false, false, false, false, false, false, false, false, false, false, false]) (d := some 44) rfl (by kernel_rfl) (by kernel_rfl) (by kernel_rfl) (by kernel_rfl) ?_ rfl rfl ?_ ?_
                rotate_left
                · go_simp; try rfl
                rotate_left
                · simp only [Act.put]; exact rfl
                refine CalmV.take (i := 7) (v := ?_) (a' := ?_) (l' := #[true, true, true, true, true, true, true, true, false, false, false, false, false, false, false, false, false, false, false, false]) (d := some 45) rfl (by kernel_rfl) (by kernel_rfl) (by kernel_rfl) (by kernel_rfl) ?_ rfl rfl ?_ ?_
                rotate_left
                · go_simp; try rfl
                rotate_left
                · simp only [Act.put]; exact rfl
                refine CalmV.take (i := 8) (v := ?_) (a' := ?_) (l' := #[true, true, true, true, true, true, true, true, true, false, false, false, false, false, false, false, false, false, false, false]) (d := some 46) rfl (by kernel_rfl) (by kernel_rfl) (by kernel_rfl) (by kernel_rfl) ?_ rfl rfl ?_ ?_
                rotate_left
                · go_simp; try rfl
                rotate_left
                · simp only [Act.put]; exact rfl
                refine CalmV.take (i := 9) (v := ?_) (a' := ?_) (l' := #[true, true, true, true, true, true, true, true, true, true, false, false, false, false, false, false, false, false, false, false]) (d := some 47) rfl (by kernel_rfl) (by kernel_rfl) (by kernel_rfl) (by kernel_rfl) ?_ rfl rfl ?_ ?_
                rotate_left
                · go_simp; try rfl
                rotate_left
                · simp only [Act.put]; exact rfl
                refine CalmV.take (i := 10) (v := ?_) (a' := ?_) (l' := #[true, true, true, true, true, true, true, true, true, true, true, false, false, false, false, false, false, false, false, false]) (d := some 48) rfl (by kernel_rfl) (by kernel_rfl) (by kernel_rfl) rfl ?_ rfl rfl ?_ ?_
                rotate_left
                · go_simp; try rfl
                rotate_left
                · simp only [Act.put]; exact rfl
                refine CalmV.take (i := 11) (v := ?_) (a' := ?_) (l' := #[true, true, true, true, true, true, true, true, true, true, true, true, false, false, false, false, false, false, false, false]) (d := some 49) rfl (by kernel_rfl) (by kernel_rfl) (by kernel_rfl) rfl ?_ rfl rfl ?_ ?_
                rotate_left
                · go_simp; try rfl
                rotate_left
                · simp only [Act.put]; exact rfl
                refine CalmV.take (i := 12) (v := ?_) (a' := ?_) (l' := #[true, true, true, true, true, true, true, true, true, true, true, true, true, false, false, false, false, false, false, false]) (d := some 50) rfl (by kernel_rfl) (by kernel_rfl) (by kernel_rfl) (by kernel_rfl) ?_ rfl rfl ?_ ?_
                rotate_left
                · go_simp; try rfl
                rotate_left
                · simp only [Act.put]; exact rfl
                refine CalmV.take (i := 13) (v := ?_) (a' := ?_) (l' := #[true, true, true, true, true, true, true, true, true, true, true, true, true, true, false, false, false, false, false, false]) (d := some 51) rfl (by kernel_rfl) (by kernel_rfl) (by kernel_rfl) (by kernel_rfl) ?_ rfl rfl ?_ ?_
                rotate_left
                · go_simp; try rfl
                rotate_left
                · simp only [Act.put]; exact rfl
                refine CalmV.take (i := 14) (v := ?_) (a' := ?_) (l' := #[true, true, true, true, true, true, true, true, true, true, true, true, true, true, true, false, false, false, false, false]) (d := some 52) rfl (by kernel_rfl) (by kernel_rfl) (by kernel_rfl) (by kernel_rfl) ?_ rfl rfl ?_ ?_
                rotate_left
                · go_simp; try rfl
                rotate_left
                · simp only [Act.put]; exact rfl
                refine CalmV.take (i := 15) (v := ?_) (a' := ?_) (l' := #[true, true, true, true, true, true, true, true, true, true, true, true, true, true, true, true, false, false, false, false]) (d := some 53) rfl (by kernel_rfl) (by kernel_rfl) (by kernel_rfl) (by kernel_rfl) ?_ rfl rfl ?_ ?_
                rotate_left
                · go_simp; try rfl
                rotate_left
                · simp only [Act.put]; exact rfl
                refine CalmV.take (i := 16) (v := ?_) (a' := ?_) (l' := #[true, true, true, true, true, true, true, true, true, true, true, true, true, true, true, true, true, false, false, false]) (d := some 54) rfl (by kernel_rfl) (by kernel_rfl) (by kernel_rfl) (by kernel_rfl) ?_ rfl rfl ?_ ?_
                rotate_left
                · go_simp; try rfl
                rotate_left
                · simp only [Act.put]; exact rfl
                refine CalmV.take (i := 17) (v := ?_) (a' := ?_) (l' := #[true, true, true, true, true, true, true, true, true, true, true, true, true, true, true, true, true, true, false, false]) (d := some 55) rfl (by kernel_rfl) (by kernel_rfl) (by kernel_rfl) (by kernel_rfl) ?_ rfl rfl ?_ ?_
                rotate_left
                · go_simp; try rfl
                rotate_left
                · simp only [Act.put]; exact rfl
                refine CalmV.take (i := 18) (v := ?_) (a' := ?_) (l' := #[true, true, true, true, true, true, true, true, true, true, true, true, true, true, true, true, true, true, true, false]) (d := some 56) rfl (by kernel_rfl) (by kernel_rfl) (by kernel_rfl) (by kernel_rfl) ?_ rfl rfl ?_ ?_
                rotate_left
                · go_simp; try rfl
                rotate_left
                · simp only [Act.put]; exact rfl
                refine CalmV.take (i := 19) (v := ?_) (a' := ?_) (l' := #[true, true, true, true, true, true, true, true, true, true, true, true, true, true, true, true, true, true, true, true]) (d := some 57) rfl (by kernel_rfl) (by kernel_rfl) (by kernel_rfl) rfl ?_ rfl rfl ?_ ?_
                rotate_left
                · go_simp; try rfl
                rotate_left
                · simp only [Act.put]; exact rfl
                refine CalmV.done (by kernel_rfl) ?_
                try simp only [List.setIfInBounds_toArray, List.set_cons_succ, List.set_cons_zero]
                clear y0 y1 y2 y3 y4 z0 z1 z2 z3 z4 hp2
                replace HS := hide (sb_drew HS.out)
                replace HI' := hide (bx_drew HI'.out)
                gi_wp2
                refine ⟨((ko_drew W).trans (KeepsOthers.setCell _ _ _)).from _, ?_⟩
                exact ⟨fun _ => ⟨pre, _, rfl, by rw [CE.out, ← HN.out, ← HM.out]; exact hlt, fun e => hxy (by have := (Prod.mk.inj e).2; rw [this, HY.out, CE.out]; congr 1; rw [HK.out, ← HN.out, ← HM.out])⟩, fun h => absurd rfl h⟩
              · have q4 : (xi.c == y.c) = false := by simp [e]
                rw [e1] at y0
                rw [e2] at y1
                rw [e3] at y2
                rw [e4] at y3
                clear e e1 e2 e3 e4
                gi_wp2
                refine wp_calmV (n := 20) (by kernel_rfl) (by kernel_rfl) rfl rfl ?_
                refine CalmV.take (i := 0) (v := ?_) (a' := ?_) (l' := #[true, false, false, false, false, false, false, false, false, false, false, false, false, false, false, false, false, false, false, false]) (d := some 38) rfl (by kernel_rfl) (by kernel_rfl) (by kernel_rfl) rfl ?_ rfl rfl ?_ ?_
                rotate_left
                · go_simp; try rfl
                rotate_left
                · simp only [Act.put]; exact rfl
                refine CalmV.take (i := 1) (v := ?_) (a' := ?_) (l' := #[true, true, false, false, false, false, false, false, false, false, false, false, false, false, false, false, false, false, false, false]) (d := some 39) rfl (by kernel_rfl) (by kernel_rfl) (by kernel_rfl) rfl ?_ rfl rfl ?_ ?_
                rotate_left
                · go_simp; try rfl
                rotate_left
                · simp only [Act.put]; exact rfl
                refine CalmV.take (i := 2) (v := ?_) (a' := ?_) (l' := #[true, true, true, false, false, false, false, false, false, false, false, false, false, false, false, false, false, false, false, false]) (d := some 40) rfl (by kernel_rfl) (by kernel_rfl) (by kernel_rfl) rfl ?_ rfl rfl ?_ ?_
                rotate_left
                · go_simp; try rfl
                rotate_left
                · simp only [Act.put]; exact rfl
                refine CalmV.take (i := 3) (v := ?_) (a' := ?_) (l' := #[true, true, true, true, false, false, false, false, false, false, false, false, false, false, false, false, false, false, false, false]) (d := some 41) rfl (by kernel_rfl) (by kernel_rfl) (by kernel_rfl) rfl ?_ rfl rfl ?_ ?_
                rotate_left
                · go_simp; try rfl
                rotate_left
                · simp only [Act.put]; exact rfl
                refine CalmV.take (i := 4) (v := ?_) (a' := ?_) (l' := #[true, true, true, true, true, false, false, false, false, false, false, false, false, false, false, false, false, false, false, false]) (d := some 42) rfl (by kernel_rfl) (by kernel_rfl) (by kernel_rfl) (by kernel_rfl) ?_ rfl rfl ?_ ?_
                rotate_left
                · go_simp; try rfl
                rotate_left
                · simp only [Act.put]; exact rfl
                refine CalmV.take (i := 5) (v := ?_) (a' := ?_) (l' := #[true, true, true, true, true, true, false, false, false, false, false, false, false, false, false, false, false, false, false, false]) (d := some 43) rfl (by kernel_rfl) (by kernel_rfl) (by kernel_rfl) (by kernel_rfl) ?_ rfl rfl ?_ ?_
                rotate_left
                · go_simp; try rfl
                rotate_left
                · simp only [Act.put]; exact rfl
                refine CalmV.take (i := 6) (v := ?_) (a' := ?_) (l' := #[true, true, true, true, true, true, true, false, false, false, false, false, false, false, false, false, false, false, false, false]) (d := some 44) rfl (by kernel_rfl) (by kernel_rfl) (by kernel_rfl) (by kernel_rfl) ?_ rfl rfl ?_ ?_
                rotate_left
                · go_simp; try rfl
                rotate_left
                · simp only [Act.put]; exact rfl
                refine CalmV.take (i := 7) (v := ?_) (a' := ?_) (l' := #[true, true, true, true, true, true, true, true, false, false, false, false, false, false, false, false, false, false, false, false]) (d := some 45) rfl (by kernel_rfl) (by kernel_rfl) (by kernel_rfl) (by kernel_rfl) ?_ rfl rfl ?_ ?_
                rotate_left
                · go_simp; try rfl
                rotate_left
                · simp only [Act.put]; exact rfl
                refine CalmV.take (i := 8) (v := ?_) (a' := ?_) (l' := #[true, true, true, true, true, true, true, true, true, false, false, false, false, false, false, false, false, false, false, false]) (d := some 46) rfl (by kernel_rfl) (by kernel_rfl) (by kernel_rfl) (by kernel_rfl) ?_ rfl rfl ?_ ?_
                rotate_left
                · go_simp; try rfl
                rotate_left
                · simp only [Act.put]; exact rfl
                refine CalmV.take (i := 9) (v := ?_) (a' := ?_) (l' := #[true, true, true, true, true, true, true, true, true, true, false, false, false, false, false, false, false, false, false, false]) (d := some 47) rfl (by kernel_rfl) (by kernel_rfl) (by kernel_rfl) (by kernel_rfl) ?_ rfl rfl ?_ ?_
                rotate_left
                · go_simp; try rfl
                rotate_left
                · simp only [Act.put]; exact rfl
                refine CalmV.take (i := 10) (v := ?_) (a' := ?_) (l' := #[true, true, true, true, true, true, true, true, true, true, true, false, false, false, false, false, false, false, false, false]) (d := some 48) rfl (by kernel_rfl) (by kernel_rfl) (by kernel_rfl) rfl ?_ rfl rfl ?_ ?_
                rotate_left
                · go_simp; try rfl
                rotate_left
                · simp only [Act.put]; exact rfl
                refine CalmV.take (i := 11) (v := ?_) (a' := ?_) (l' := #[true, true, true, true, true, true, true, true, true, true, true, true, false, false, false, false, false, false, false, false]) (d := some 49) rfl (by kernel_rfl) (by kernel_rfl) (by kernel_rfl) rfl ?_ rfl rfl ?_ ?_
                rotate_left
                · go_simp; try rfl
                rotate_left
                · simp only [Act.put]; exact rfl
                refine CalmV.take (i := 12) (v := ?_) (a' := ?_) (l' := #[true, true, true, true, true, true, true, true, true, true, true, true, true, false, false, false, false, false, false, false]) (d := some 50) rfl (by kernel_rfl) (by kernel_rfl) (by kernel_rfl) (by kernel_rfl) ?_ rfl rfl ?_ ?_
                rotate_left
                · go_simp; try rfl
                rotate_left
                · simp only [Act.put]; exact rfl
                refine CalmV.take (i := 13) (v := ?_) (a' := ?_) (l' := #[true, true, true, true, true, true, true, true, true, true, true, true, true, true, false, false, false, false, false, false]) (d := some 51) rfl (by kernel_rfl) (by kernel_rfl) (by kernel_rfl) (by kernel_rfl) ?_ rfl rfl ?_ ?_
                rotate_left
                · go_simp; try rfl
                rotate_left
                · simp only [Act.put]; exact rfl
                refine CalmV.take (i := 14) (v := ?_) (a' := ?_) (l' := #[true, true, true, true, true, true, true, true, true, true, true, true, true, true, true, false, false, false, false, false]) (d := some 52) rfl (by kernel_rfl) (by kernel_rfl) (by kernel_rfl) (by kernel_rfl) ?_ rfl rfl ?_ ?_
                rotate_left
                · go_simp; try rfl
                rotate_left
                · simp only [Act.put]; exact rfl
                refine CalmV.take (i := 15) (v := ?_) (a' := ?_) (l' := #[true, true, true, true, true, true, true, true, true, true, true, true, true, true, true, true, false, false, false, false]) (d := some 53) rfl (by kernel_rfl) (by kernel_rfl) (by kernel_rfl) (by kernel_rfl) ?_ rfl rfl ?_ ?_
                rotate_left
                · go_simp; try rfl
                rotate_left
                · simp only [Act.put]; exact rfl
                refine CalmV.take (i := 16) (v := ?_) (a' := ?_) (l' := #[true, true, true, true, true, true, true, true, true, true, true, true, true, true, true, true, true, false, false, false]) (d := some 54) rfl (by kernel_rfl) (by kernel_rfl) (by kernel_rfl) (by kernel_rfl) ?_ rfl rfl ?_ ?_
                rotate_left
                · go_simp; try rfl
                rotate_left
                · simp only [Act.put]; exact rfl
                refine CalmV.take (i := 17) (v := ?_) (a' := ?_) (l' := #[true, true, true, true, true, true, true, true, true, true, true, true, true, true, true, true, true, true, false, false]) (d := some 55) rfl (by kernel_rfl) (by kernel_rfl) (by kernel_rfl) (by kernel_rfl) ?_ rfl rfl ?_ ?_
                rotate_left
                · go_simp; try rfl
                rotate_left
                · simp only [Act.put]; exact rfl
                refine CalmV.take (i := 18) (v := ?_) (a' := ?_) (l' := #[true, true, true, true, true, true, true, true, true, true, true, true, true, true, true, true, true, true, true, false]) (d := some 56) rfl (by kernel_rfl) (by kernel_rfl) (by kernel_rfl) (by kernel_rfl) ?_ rfl rfl ?_ ?_
                rotate_left
                · go_simp; try rfl
                rotate_left
                · simp only [Act.put]; exact rfl
                refine CalmV.take (i := 19) (v := ?_) (a' := ?_) (l' := #[true, true, true, true, true, true, true, true, true, true, true, true, true, true, true, true, true, true, true, true]) (d := some 57) rfl (by kernel_rfl) (by kernel_rfl) (by kernel_rfl) rfl ?_ rfl rfl ?_ ?_
                rotate_left
                · go_simp; try rfl
                rotate_left
                · simp only [Act.put]; exact rfl
                refine CalmV.done (by kernel_rfl) ?_
                try simp only [List.setIfInBounds_toArray, List.set_cons_succ, List.set_cons_zero]
                clear y0 y1 y2 y3 y4 z0 z1 z2 z3 z4 hp2
                replace HS := hide (sb_drew HS.out)
                replace HI' := hide (bx_drew HI'.out)
                gi_wp2
                refine ⟨((ko_drew W).trans (KeepsOthers.setCell _ _ _)).from _, ?_⟩
                exact ⟨fun _ => ⟨pre, _, rfl, by rw [CE.out, ← HN.out, ← HM.out]; exact hlt, fun e => hxy (by have := (Prod.mk.inj e).2; rw [this, HY.out, CE.out]; congr 1; rw [HK.out, ← HN.out, ← HM.out])⟩, fun h => absurd rfl h⟩
          · have h47 : ((kx : Int) != (nn : Int) - 1 - (m : Int)) = true := by have := HK.out; simp; omega
            gi_wp2
            refine wp_calmV (n := 20) (by kernel_rfl) (by kernel_rfl) rfl rfl ?_
            refine CalmV.take (i := 0) (v := ?_) (a' := ?_) (l' := #[true, false, false, false, false, false, false, false, false, false, false, false, false, false, false, false, false, false, false, false]) (d := some 38) rfl (by kernel_rfl) (by kernel_rfl) (by kernel_rfl) rfl ?_ rfl rfl ?_ ?_
            rotate_left
            · go_simp; try rfl
            rotate_left
            · simp only [Act.put]; exact rfl
            refine CalmV.take (i := 1) (v := ?_) (a' := ?_) (l' := #[true, true, false, false, false, false, false, false, false, false, false, false, false, false, false, false, false, false, false, false]) (d := some 39) rfl (by kernel_rfl) (by kernel_rfl) (by kernel_rfl) rfl ?_ rfl rfl ?_ ?_
            rotate_left
            · go_simp; try rfl
            rotate_left
            · simp only [Act.put]; exact rfl
            refine CalmV.take (i := 2) (v := ?_) (a' := ?_) (l' := #[true, true, true, false, false, false, false, false, false, false, false, false, false, false, false, false, false, false, false, false]) (d := some 40) rfl (by kernel_rfl) (by kernel_rfl) (by kernel_rfl) rfl ?_ rfl rfl ?_ ?_
            rotate_left
            · go_simp; try rfl
            rotate_left
            · simp only [Act.put]; exact rfl
            refine CalmV.take (i := 3) (v := ?_) (a' := ?_) (l' := #[true, true, true, true, false, false, false, false, false, false, false, false, false, false, false, false, false, false, false, false]) (d := some 41) rfl (by kernel_rfl) (by kernel_rfl) (by kernel_rfl) rfl ?_ rfl rfl ?_ ?_
            rotate_left
            · go_simp; try rfl
            rotate_left
            · simp only [Act.put]; exact rfl
            refine CalmV.take (i := 4) (v := ?_) (a' := ?_) (l' := #[true, true, true, true, true, false, false, false, false, false, false, false, false, false, false, false, false, false, false, false]) (d := some 42) rfl (by kernel_rfl) (by kernel_rfl) (by kernel_rfl) (by kernel_rfl) ?_ rfl rfl ?_ ?_
            rotate_left
            · go_simp; try rfl
            rotate_left
            · simp only [Act.put]; exact rfl
            refine CalmV.take (i := 5) (v := ?_) (a' := ?_) (l' := #[true, true, true, true, true, true, false, false, false, false, false, false, false, false, false, false, false, false, false, false]) (d := some 43) rfl (by kernel_rfl) (by kernel_rfl) (by kernel_rfl) (by kernel_rfl) ?_ rfl rfl ?_ ?_
            rotate_left
            · go_simp; try rfl
            rotate_left
            · simp only [Act.put]; exact rfl
            refine CalmV.take (i := 6) (v := ?_) (a' := ?_) (l' := #[true, true, true, true, true, true, true, false, false, false, false, false, false, false, false, false, false, false, false, false]) (d := some 44) rfl (by kernel_rfl) (by kernel_rfl) (by kernel_rfl) (by kernel_rfl) ?_ rfl rfl ?_ ?_
            rotate_left
            · go_simp; try rfl
            rotate_left
            · simp only [Act.put]; exact rfl
            refine CalmV.take (i := 7) (v := ?_) (a' := ?_) (l' := #[true, true, true, true, true, true, true, true, false, false, false, false, false, false, false, false, false, false, false, false]) (d := some 45) rfl (by kernel_rfl) (by kernel_rfl) (by kernel_rfl) (by kernel_rfl) ?_ rfl rfl ?_ ?_
            rotate_left
            · go_simp; try rfl
            rotate_left
            · simp only [Act.put]; exact rfl
            refine CalmV.take (i := 8) (v := ?_) (a' := ?_) (l' := #[true, true, true, true, true, true, true, true, true, false, false, false, false, false, false, false, false, false, false, false]) (d := some 46) rfl (by kernel_rfl) (by kernel_rfl) (by kernel_rfl) (by kernel_rfl) ?_ rfl rfl ?_ ?_
            rotate_left
            · go_simp; try rfl
            rotate_left
            · simp only [Act.put]; exact rfl
            refine CalmV.take (i := 9) (v := ?_) (a' := ?_) (l' := #[true, true, true, true, true, true, true, true, true, true, false, false, false, false, false, false, false, false, false, false]) (d := some 47) rfl (by kernel_rfl) (by kernel_rfl) (by kernel_rfl) (by kernel_rfl) ?_ rfl rfl ?_ ?_
            rotate_left
            · go_simp; try rfl
            rotate_left
            · simp only [Act.put]; exact rfl
            refine CalmV.take (i := 10) (v := ?_) (a' := ?_) (l' := #[true, true, true, true, true, true, true, true, true, true, true, false, false, false, false, false, false, false, false, false]) (d := some 48) rfl (by kernel_rfl) (by kernel_rfl) (by kernel_rfl) rfl ?_ rfl rfl ?_ ?_
            rotate_left
            · go_simp; try rfl
            rotate_left
            · simp only [Act.put]; exact rfl
            refine CalmV.take (i := 11) (v := ?_) (a' := ?_) (l' := #[true, true, true, true, true, true, true, true, true, true, true, true, false, false, false, false, false, false, false, false]) (d := some 49) rfl (by kernel_rfl) (by kernel_rfl) (by kernel_rfl) rfl ?_ rfl rfl ?_ ?_
            rotate_left
            · go_simp; try rfl
            rotate_left
            · simp only [Act.put]; exact rfl
            refine CalmV.skip (i := 12) (a' := ?_) (l' := #[true, true, true, true, true, true, true, true, true, true, true, true, true, false, false, false, false, false, false, false]) (d := some 50) rfl (by kernel_rfl) (by kernel_rfl) (by kernel_rfl) (by kernel_rfl) rfl rfl ?_ ?_
            rotate_left
            · simp only [Act.put]; exact rfl
            refine CalmV.skip (i := 13) (a' := ?_) (l' := #[true, true, true, true, true, true, true, true, true, true, true, true, true, true, false, false, false, false, false, false]) (d := some 51) rfl (by kernel_rfl) (by kernel_rfl) (by kernel_rfl) (by kernel_rfl) rfl rfl ?_ ?_
            rotate_left
            · simp only [Act.put]; exact rfl
            refine CalmV.skip (i := 14) (a' := ?_) (l' := #[true, true, true, true, true, true, true, true, true, true, true, true, true, true, true, false, false, false, false, false]) (d := some 52) rfl (by kernel_rfl) (by kernel_rfl) (by kernel_rfl) (by kernel_rfl) rfl rfl ?_ ?_
            rotate_left
            · simp only [Act.put]; exact rfl
            refine CalmV.skip (i := 15) (a' := ?_) (l' := #[true, true, true, true, true, true, true, true, true, true, true, true, true, true, true, true, false, false, false, false]) (d := some 53) rfl (by kernel_rfl) (by kernel_rfl) (by kernel_rfl) (by kernel_rfl) rfl rfl ?_ ?_
            rotate_left
            · simp only [Act.put]; exact rfl
            refine CalmV.skip (i := 16) (a' := ?_) (l' := #[true, true, true, true, true, true, true, true, true, true, true, true, true, true, true, true, true, false, false, false]) (d := some 54) rfl (by kernel_rfl) (by kernel_rfl) (by kernel_rfl) (by kernel_rfl) rfl rfl ?_ ?_
            rotate_left
            · simp only [Act.put]; exact rfl
            refine CalmV.skip (i := 17) (a' := ?_) (l' := #[true, true, true, true, true, true, true, true, true, true, true, true, true, true, true, true, true, true, false, false]) (d := some 55) rfl (by kernel_rfl) (by kernel_rfl) (by kernel_rfl) (by kernel_rfl) rfl rfl ?_ ?_
            rotate_left
            · simp only [Act.put]; exact rfl
            refine CalmV.skip (i := 18) (a' := ?_) (l' := #[true, true, true, true, true, true, true, true, true, true, true, true, true, true, true, true, true, true, true, false]) (d := some 56) rfl (by kernel_rfl) (by kernel_rfl) (by kernel_rfl) (by kernel_rfl) rfl rfl ?_ ?_
            rotate_left
            · simp only [Act.put]; exact rfl
            refine CalmV.take (i := 19) (v := ?_) (a' := ?_) (l' := #[true, true, true, true, true, true, true, true, true, true, true, true, true, true, true, true, true, true, true, true]) (d := some 57) rfl (by kernel_rfl) (by kernel_rfl) (by kernel_rfl) rfl ?_ rfl rfl ?_ ?_
            rotate_left
            · go_simp; try rfl
            rotate_left
            · simp only [Act.put]; exact rfl
            refine CalmV.done (by kernel_rfl) ?_
            try simp only [List.setIfInBounds_toArray, List.set_cons_succ, List.set_cons_zero]
            clear y0 y1 y2 y3 y4 z0 z1 z2 z3 z4 hp2
            replace HS := hide (sb_drew HS.out)
            replace HI' := hide (bx_drew HI'.out)
            gi_wp2
            refine ⟨((ko_drew W).trans (KeepsOthers.setCell _ _ _)).from _, ?_⟩
            exact ⟨fun _ => ⟨pre, _, rfl, by rw [CE.out, ← HN.out, ← HM.out]; exact hlt, fun e => h1 (by have := (Prod.mk.inj e).1; rw [this, HK.out, CE.out, ← HN.out, ← HM.out])⟩, fun h => absurd rfl h⟩
        case nx13 =>
          rintro M13 W13 v hD hv hi hS hK
          have HS := hide hS
          have HI' := hide hi
          have KM13 := hide hK
          have GM13 := hide hD
          have ORM13 : Hid (R < M13) := hide (by have := BRI13.out; have := LI13.out; omega)
          have OWM13 : Hid (w.heap.size ≤ M13) := hide (by have := PXI13.out; have := WPX.out; have := LI13.out; omega)
          clear hS hi hK hD
          have SZ := hide HS.out.base.size
          replace HW := hide (HS.out.below HW.out (by have := LWI13.out; omega) (by have := HW.out.size; omega))
          replace BN := hide (HS.out.boxed BN.out (by have := BNI13.out; omega))
          replace BD := hide (HS.out.boxed BD.out (by have := BDI13.out; omega))
          replace BE := hide (HS.out.boxed BE.out (by have := BEI13.out; omega))
          replace BR := hide (HS.out.boxed BR.out (by have := BRI13.out; omega))
          replace PX := hide (HS.out.box4 PX.out (by have := PXI13.out; omega))
          replace KM01 := hide ((HS.out.block _ (Array.getElem?_eq_some_iff.1 KM01.out).1 (by have := MIM0113.out; omega)).trans KM01.out)
          replace HB := hide (HS.out.below HB.out (by have := PXI13.out; have := WPX.out; omega) (by have := HB.out.size; omega))
          have i0 := HI'.out.cell
          have n0 := BN.out.cell
          have d0 := BD.out.cell
          have e0 := BE.out.cell
          by_cases hvn : v = (cs.length : Nat)
          · subst hvn
            clear hv
            go_upto_region 14 with fail
            clear i0 n0 d0 e0
            have GN := hide BN.out.lt
            have GE := hide BE.out.lt
            have GR := hide BR.out.lt
            have GP := hide (Box4.lt PX.out)
            have GW := hide HW.out.size
            have GKM01 := hide (Array.getElem?_eq_some_iff.1 KM01.out).1
            have GKM13 := hide (Array.getElem?_eq_some_iff.1 KM13.out).1
            have hb := below_alloc W13 (.cells #[.int .i64 1] 3)
            replace BD := hide (Boxed.new W13 3 (.int .i64 1))
            replace HW := hide (HW.out.trans (hb.mono HW.out.size))
            replace BN := hide (boxed_step BN.out hb)
            replace KM01 := hide ((hb.block _ (Array.getElem?_eq_some_iff.1 KM01.out).1).trans KM01.out)
            replace KM13 := hide ((hb.block _ (Array.getElem?_eq_some_iff.1 KM13.out).1).trans KM13.out)
            clear HS HI'
            replace PX := hide (PX.out.step hb)
            replace BE := hide (boxed_step BE.out hb)
            replace BR := hide (boxed_step BR.out hb)
            replace HB := hide (HB.out.trans (hb.mono HB.out.size))
            clear hb
            generalize W13.alloc (.cells #[.int .i64 1] 3) = U13e at *
            obtain ⟨D13e, hD⟩ : ∃ D, D = W13.heap.size := ⟨_, rfl⟩
            have HD := hide hD
            rw [← hD] at BD ⊢
            clear hD
            have d0 := BD.out.cell
            have df := BD.out.frozen
            go_wp2
            rw [rounds_succ]
            clear d0 df
            have HS := hide ((SameBut.refl D13e U13e).set (.int .i64 2))
            replace BD := hide (BD.out.set (.int .i64 2))
            replace HW := hide (HS.out.below HW.out (by have := HD.out; have := GW.out; omega) (by have := HW.out.size; omega))
            replace BN := hide (HS.out.boxed BN.out (by have := HD.out; have := GN.out; omega))
            replace BE := hide (HS.out.boxed BE.out (by have := HD.out; have := GE.out; omega))
            replace BR := hide (HS.out.boxed BR.out (by have := HD.out; have := GR.out; omega))
            replace PX := hide (HS.out.box4 PX.out (by have := HD.out; have := GP.out; omega))
            replace HB := hide (HS.out.below HB.out (by have := HD.out; have := GP.out; have := WPX.out; omega) (by have := HB.out.size; omega))
            replace KM01 := hide ((HS.out.block _ (Array.getElem?_eq_some_iff.1 KM01.out).1 (by have := HD.out; have := GKM01.out; omega)).trans KM01.out)
            replace KM13 := hide ((HS.out.block _ (Array.getElem?_eq_some_iff.1 KM13.out).1 (by have := HD.out; have := GKM13.out; omega)).trans KM13.out)
            clear HS
            generalize U13e.setCell ⟨D13e, 0, none⟩ (.int .i64 2) = T13e at *
            have d0 := BD.out.cell
            have r0 := BR.out.cell
            have rf := BR.out.frozen
            go_wp2
            exact two_marks rfl _ _ w R M01 M13 true rfl ((Below.heap_setCell _ _ _ _ (by show M01 ≠ R; have := ORM01.out; omega)).trans KM01.out) ((Below.heap_setCell _ _ _ _ (by show M13 ≠ R; have := BRI13.out; have := LI13.out; have := GM13.out; omega)).trans KM13.out) (by have := MIM0113.out; have := LI13.out; have := GM13.out; omega) (BR.out.set _) (HB.out.setCell (p := ⟨R, 0, none⟩) (by show w.heap.size ≤ R; have := HZ.out; have := HR.out; omega) _) (by have := OWM01.out; omega) (by have := PXI13.out; have := WPX.out; have := LI13.out; have := GM13.out; omega)
          · exact absurd (hv.elim id (fun h => h.1.elim)) hvn
  | false =>
    have CE : Hid (cs = []) := hide (by rw [CS.out, hr]; rfl)
    have CL : Hid (cs.length ≤ 400) := hide (by rw [CE.out]; simp)
    clear hr HP
    have n0 := BN.out.cell
    have nf := BN.out.frozen
    go_upto_region 10 with fail
    clear n0 nf
    have HS := hide ((SameBut.refl G w6).set (.int .i64 0))
    replace BN := hide (BN.out.set (.int .i64 0))
    replace HW := hide (HS.out.below HW.out (by have := HG.out; omega) (by have := HW.out.size; omega))
    replace BE := hide (HS.out.boxed BE.out (by have := HG.out; have := BEG.out; omega))
    replace BR := hide (HS.out.boxed BR.out (by have := HG.out; have := BRG.out; omega))
    replace PX := hide (HS.out.box4 PX.out (by have := HG.out; have := PXG.out; omega))
    replace HB := hide (HS.out.below HB.out (by have := HG.out; have := PXG.out; have := HZ.out; omega) (by have := HB.out.size; omega))
    clear HS
    generalize w6.setCell ⟨G, 0, none⟩ (.int .i64 0) = w6b at *
    replace BN : Hid (Boxed _ G 3 (.int .i64 (cs.length : Nat))) := hide (by rw [CE.out]; exact BN.out)
    have hq := eql_func
    go_wp2_with fail
    refine (live_any _).mono ?_
    rintro e w7 ⟨rfl, hb⟩
    replace HW := hide (HW.out.trans (hb.mono HW.out.size))
    replace BN := hide (boxed_step BN.out hb)
    replace PX := hide (PX.out.step hb)
    replace BE := hide (boxed_step BE.out hb)
    replace BR := hide (boxed_step BR.out hb)
    replace HB := hide (HB.out.trans (hb.mono HB.out.size))
    clear hb
    clear hq
    go_upto_region 13 with fail
    refine wp_loop_rounds 3 ?_
    rw [rounds_succ]
    have hb := below_alloc w7 (.cells #[.int .i64 0] 3)
    have BD := hide (Boxed.new w7 3 (.int .i64 0))
    replace HW := hide (HW.out.trans (hb.mono HW.out.size))
    replace BN := hide (boxed_step BN.out hb)
    replace PX := hide (PX.out.step hb)
    replace BE := hide (boxed_step BE.out hb)
    replace BR := hide (boxed_step BR.out hb)
    replace HB := hide (HB.out.trans (hb.mono HB.out.size))
    clear hb
    generalize w7.alloc (.cells #[.int .i64 0] 3) = w8 at *
    obtain ⟨D, hD⟩ : ∃ D, D = w7.heap.size := ⟨_, rfl⟩
    have HD := hide hD
    rw [← hD] at BD ⊢
    clear hD
    have WPX : Hid (w.heap.size ≤ B) := hide (by have := HZ.out; omega)
    have d0 := BD.out.cell
    go_upto_region 16 with fail
    clear d0
    have BN0 := hide BN.out.lt
    have BD0 := hide BD.out.lt
    have BE0 := hide BE.out.lt
    have BR0 := hide BR.out.lt
    have PX0 := hide PX.out.lt
    have HW0 := hide HW.out.size
    have hb := below_alloc w8 (.cells #[.int .i64 0] 3)
    have BI := hide (Boxed.new w8 3 (.int .i64 0))
    replace HW := hide (HW.out.trans (hb.mono HW.out.size))
    replace BN := hide (boxed_step BN.out hb)
    replace BD := hide (boxed_step BD.out hb)
    replace PX := hide (PX.out.step hb)
    replace BE := hide (boxed_step BE.out hb)
    replace BR := hide (boxed_step BR.out hb)
    replace HB := hide (HB.out.trans (hb.mono HB.out.size))
    clear hb
    generalize w8.alloc (.cells #[.int .i64 0] 3) = V04 at *
    obtain ⟨I04, hI⟩ : ∃ I, I = w8.heap.size := ⟨_, rfl⟩
    have HI04 := hide hI
    rw [← hI] at BI ⊢
    clear hI
    have BNI04 : Hid (G < I04) := hide (by have := HI04.out; have := BN0.out; omega)
    have BDI04 : Hid (D < I04) := hide (by have := HI04.out; have := BD0.out; omega)
    have BEI04 : Hid (E < I04) := hide (by have := HI04.out; have := BE0.out; omega)
    have BRI04 : Hid (R < I04) := hide (by have := HI04.out; have := BR0.out; omega)
    have PXI04 : Hid (B < I04) := hide (by have := HI04.out; have := PX0.out; omega)
    have LWI04 : Hid (w4.heap.size ≤ I04) := hide (by have := HI04.out; have := HW0.out; omega)
    have LB := hide (Box4.lt PX.out)
    have LI04 : Hid (I04 < V04.heap.size) := hide BI.out.lt
    go_wp2_with fail
    refine (wpIn_wide (n := 3)).1 ?_
    refine range_any True (stop := stop) (cs := cs) (by omega) (gf := 40) (lb := #[.pointer (some ⟨bx, 0, none⟩)]) rfl (enters_of Tryd.func40 (by kernel_rfl) rfl)
      (back_stops 2 (by omega) bx lo w4.heap.size lo vb cs (by have := CL.out; omega) w4 OW.out (Nat.le_refl _) rfl lo0.out X2.out CX.out) Keeps.trans
      (fun W l o o' hl _ _ _ k _ h2 => by rw [World.putObj_heap_other (by have := HW.out.size; omega)]) HW.out (fun _ => rfl)
      BI.out ?assign04 ?body04 ?nx04
    case assign04 =>
      intro l pre x W K hI hK
      obtain ⟨hi, hS⟩ := hI
      obtain ⟨kx, xi⟩ := x
      unfold encN
      simp only [List.zip_toArray, List.zip_cons_cons, List.zip_nil_right, List.foldl_toArray', List.size_toArray, List.length_cons, List.length_nil, List.foldl_cons, List.foldl_nil, List.setIfInBounds_toArray, List.set_cons_succ, List.set_cons_zero]
      gi_wp2
      have b5 := Box5.new W 36 xi
      have ks := KeepsOthers.alloc W (.cells xi.vals 36)
      have kp := keeps_alloc (lo := lo) (hi := w4.heap.size) W (.cells xi.vals 36) (by have := hS.base.size; have := HW.out.size; omega)
      have hi' := boxed_step hi (below_alloc W (.cells xi.vals 36))
      have hS' := hS.alloc (.cells xi.vals 36)
      unfold Ins.vals at b5 ks kp hi' hS'
      generalize W.alloc (.cells #[.int .i64 xi.op, .int .i64 xi.to, .int .i64 xi.a, .int .i64 xi.b, .int .i64 xi.c] 36) = W' at *
      generalize W.heap.size = gx at *
      exact hK _ _ (ks.from _) kp ⟨hi', hS'⟩ ⟨gx, by simp only [fr, encN, List.zip_toArray, List.zip_cons_cons, List.zip_nil_right, List.foldl_toArray', List.size_toArray, List.length_cons, List.length_nil, List.foldl_cons, List.foldl_nil, List.setIfInBounds_toArray, List.set_cons_succ, List.set_cons_zero], b5⟩
    case body04 =>
      rintro l pre x gx W ⟨hi, hS⟩ hbx hlt
      rw [tb_length] at hlt
      exact absurd hlt (by rw [CE.out]; simp)
    case nx04 =>
      rintro M04 W04 v hD hv hi hS hK
      have HS := hide hS
      have HI' := hide hi
      have KM04 := hide hK
      have GM04 := hide hD
      have ORM04 : Hid (R < M04) := hide (by have := BRI04.out; have := LI04.out; omega)
      have OWM04 : Hid (w.heap.size ≤ M04) := hide (by have := PXI04.out; have := WPX.out; have := LI04.out; omega)
      clear hS hi hK hD
      have SZ := hide HS.out.base.size
      replace HW := hide (HS.out.below HW.out (by have := LWI04.out; omega) (by have := HW.out.size; omega))
      replace BN := hide (HS.out.boxed BN.out (by have := BNI04.out; omega))
      replace BD := hide (HS.out.boxed BD.out (by have := BDI04.out; omega))
      replace BE := hide (HS.out.boxed BE.out (by have := BEI04.out; omega))
      replace BR := hide (HS.out.boxed BR.out (by have := BRI04.out; omega))
      replace PX := hide (HS.out.box4 PX.out (by have := PXI04.out; omega))
      replace HB := hide (HS.out.below HB.out (by have := PXI04.out; have := WPX.out; omega) (by have := HB.out.size; omega))
      have i0 := HI'.out.cell
      have n0 := BN.out.cell
      have d0 := BD.out.cell
      have e0 := BE.out.cell
      by_cases hvn : v = (cs.length : Nat)
      · subst hvn
        clear hv
        go_upto_region 14 with fail
        clear i0 n0 d0 e0
        have GN := hide BN.out.lt
        have GE := hide BE.out.lt
        have GR := hide BR.out.lt
        have GP := hide (Box4.lt PX.out)
        have GW := hide HW.out.size
        have GKM04 := hide (Array.getElem?_eq_some_iff.1 KM04.out).1
        have hb := below_alloc W04 (.cells #[.int .i64 0] 3)
        replace BD := hide (Boxed.new W04 3 (.int .i64 0))
        replace HW := hide (HW.out.trans (hb.mono HW.out.size))
        replace BN := hide (boxed_step BN.out hb)
        replace KM04 := hide ((hb.block _ (Array.getElem?_eq_some_iff.1 KM04.out).1).trans KM04.out)
        clear HS HI'
        replace PX := hide (PX.out.step hb)
        replace BE := hide (boxed_step BE.out hb)
        replace BR := hide (boxed_step BR.out hb)
        replace HB := hide (HB.out.trans (hb.mono HB.out.size))
        clear hb
        generalize W04.alloc (.cells #[.int .i64 0] 3) = U04e at *
        obtain ⟨D04e, hD⟩ : ∃ D, D = W04.heap.size := ⟨_, rfl⟩
        have HD := hide hD
        rw [← hD] at BD ⊢
        clear hD
        have d0 := BD.out.cell
        have df := BD.out.frozen
        go_wp2
        rw [rounds_succ]
        clear d0 df
        have HS := hide ((SameBut.refl D04e U04e).set (.int .i64 1))
        replace BD := hide (BD.out.set (.int .i64 1))
        replace HW := hide (HS.out.below HW.out (by have := HD.out; have := GW.out; omega) (by have := HW.out.size; omega))
        replace BN := hide (HS.out.boxed BN.out (by have := HD.out; have := GN.out; omega))
        replace BE := hide (HS.out.boxed BE.out (by have := HD.out; have := GE.out; omega))
        replace BR := hide (HS.out.boxed BR.out (by have := HD.out; have := GR.out; omega))
        replace PX := hide (HS.out.box4 PX.out (by have := HD.out; have := GP.out; omega))
        replace HB := hide (HS.out.below HB.out (by have := HD.out; have := GP.out; have := WPX.out; omega) (by have := HB.out.size; omega))
        replace KM04 := hide ((HS.out.block _ (Array.getElem?_eq_some_iff.1 KM04.out).1 (by have := HD.out; have := GKM04.out; omega)).trans KM04.out)
        clear HS
        generalize U04e.setCell ⟨D04e, 0, none⟩ (.int .i64 1) = T04e at *
        have d0 := BD.out.cell
        go_upto_region 16 with fail
        clear d0
        have BN0 := hide BN.out.lt
        have BD0 := hide BD.out.lt
        have BE0 := hide BE.out.lt
        have BR0 := hide BR.out.lt
        have PX0 := hide PX.out.lt
        have HW0 := hide HW.out.size
        have M0M04 := hide (Array.getElem?_eq_some_iff.1 KM04.out).1
        have hb := below_alloc T04e (.cells #[.int .i64 0] 3)
        have BI := hide (Boxed.new T04e 3 (.int .i64 0))
        replace HW := hide (HW.out.trans (hb.mono HW.out.size))
        replace BN := hide (boxed_step BN.out hb)
        replace BD := hide (boxed_step BD.out hb)
        replace KM04 := hide ((hb.block _ (Array.getElem?_eq_some_iff.1 KM04.out).1).trans KM04.out)
        replace PX := hide (PX.out.step hb)
        replace BE := hide (boxed_step BE.out hb)
        replace BR := hide (boxed_step BR.out hb)
        replace HB := hide (HB.out.trans (hb.mono HB.out.size))
        clear hb
        generalize T04e.alloc (.cells #[.int .i64 0] 3) = V15 at *
        obtain ⟨I15, hI⟩ : ∃ I, I = T04e.heap.size := ⟨_, rfl⟩
        have HI15 := hide hI
        rw [← hI] at BI ⊢
        clear hI
        have BNI15 : Hid (G < I15) := hide (by have := HI15.out; have := BN0.out; omega)
        have BDI15 : Hid (D04e < I15) := hide (by have := HI15.out; have := BD0.out; omega)
        have BEI15 : Hid (E < I15) := hide (by have := HI15.out; have := BE0.out; omega)
        have BRI15 : Hid (R < I15) := hide (by have := HI15.out; have := BR0.out; omega)
        have PXI15 : Hid (B < I15) := hide (by have := HI15.out; have := PX0.out; omega)
        have LWI15 : Hid (w4.heap.size ≤ I15) := hide (by have := HI15.out; have := HW0.out; omega)
        have MIM0415 : Hid (M04 < I15) := hide (by have := HI15.out; have := M0M04.out; omega)
        have LB := hide (Box4.lt PX.out)
        have LI15 : Hid (I15 < V15.heap.size) := hide BI.out.lt
        go_wp2_with fail
        refine (wpIn_wide (n := 3)).1 ?_
        refine range_any False (stop := stop) (cs := cs) (by omega) (gf := 40) (lb := #[.pointer (some ⟨bx, 0, none⟩)]) rfl (enters_of Tryd.func40 (by kernel_rfl) rfl)
          (back_stops 2 (by omega) bx lo w4.heap.size lo vb cs (by have := CL.out; omega) w4 OW.out (Nat.le_refl _) rfl lo0.out X2.out CX.out) Keeps.trans
          (fun W l o o' hl _ _ _ k _ h2 => by rw [World.putObj_heap_other (by have := HW.out.size; omega)]) HW.out (fun _ => rfl)
          BI.out ?assign15 ?body15 ?nx15
        case assign15 =>
          intro l pre x W K hI hK
          obtain ⟨hi, hS⟩ := hI
          obtain ⟨kx, xi⟩ := x
          unfold encN
          simp only [List.zip_toArray, List.zip_cons_cons, List.zip_nil_right, List.foldl_toArray', List.size_toArray, List.length_cons, List.length_nil, List.foldl_cons, List.foldl_nil, List.setIfInBounds_toArray, List.set_cons_succ, List.set_cons_zero]
          gi_wp2
          have b5 := Box5.new W 36 xi
          have ks := KeepsOthers.alloc W (.cells xi.vals 36)
          have kp := keeps_alloc (lo := lo) (hi := w4.heap.size) W (.cells xi.vals 36) (by have := hS.base.size; have := HW.out.size; omega)
          have hi' := boxed_step hi (below_alloc W (.cells xi.vals 36))
          have hS' := hS.alloc (.cells xi.vals 36)
          unfold Ins.vals at b5 ks kp hi' hS'
          generalize W.alloc (.cells #[.int .i64 xi.op, .int .i64 xi.to, .int .i64 xi.a, .int .i64 xi.b, .int .i64 xi.c] 36) = W' at *
          generalize W.heap.size = gx at *
          exact hK _ _ (ks.from _) kp ⟨hi', hS'⟩ ⟨gx, by simp only [fr, encN, List.zip_toArray, List.zip_cons_cons, List.zip_nil_right, List.foldl_toArray', List.size_toArray, List.length_cons, List.length_nil, List.foldl_cons, List.foldl_nil, List.setIfInBounds_toArray, List.set_cons_succ, List.set_cons_zero], b5⟩
        case body15 =>
          rintro l pre x gx W ⟨hi, hS⟩ hbx hlt
          rw [tb_length] at hlt
          exact absurd hlt (by rw [CE.out]; simp)
        case nx15 =>
          rintro M15 W15 v hD hv hi hS hK
          have HS := hide hS
          have HI' := hide hi
          have KM15 := hide hK
          have GM15 := hide hD
          have ORM15 : Hid (R < M15) := hide (by have := BRI15.out; have := LI15.out; omega)
          have OWM15 : Hid (w.heap.size ≤ M15) := hide (by have := PXI15.out; have := WPX.out; have := LI15.out; omega)
          clear hS hi hK hD
          have SZ := hide HS.out.base.size
          replace HW := hide (HS.out.below HW.out (by have := LWI15.out; omega) (by have := HW.out.size; omega))
          replace BN := hide (HS.out.boxed BN.out (by have := BNI15.out; omega))
          replace BD := hide (HS.out.boxed BD.out (by have := BDI15.out; omega))
          replace BE := hide (HS.out.boxed BE.out (by have := BEI15.out; omega))
          replace BR := hide (HS.out.boxed BR.out (by have := BRI15.out; omega))
          replace PX := hide (HS.out.box4 PX.out (by have := PXI15.out; omega))
          replace KM04 := hide ((HS.out.block _ (Array.getElem?_eq_some_iff.1 KM04.out).1 (by have := MIM0415.out; omega)).trans KM04.out)
          replace HB := hide (HS.out.below HB.out (by have := PXI15.out; have := WPX.out; omega) (by have := HB.out.size; omega))
          have i0 := HI'.out.cell
          have n0 := BN.out.cell
          have d0 := BD.out.cell
          have e0 := BE.out.cell
          by_cases hvn : v = (cs.length : Nat)
          · subst hvn
            clear hv
            go_upto_region 14 with fail
            clear i0 n0 d0 e0
            have GN := hide BN.out.lt
            have GE := hide BE.out.lt
            have GR := hide BR.out.lt
            have GP := hide (Box4.lt PX.out)
            have GW := hide HW.out.size
            have GKM04 := hide (Array.getElem?_eq_some_iff.1 KM04.out).1
            have GKM15 := hide (Array.getElem?_eq_some_iff.1 KM15.out).1
            have hb := below_alloc W15 (.cells #[.int .i64 1] 3)
            replace BD := hide (Boxed.new W15 3 (.int .i64 1))
            replace HW := hide (HW.out.trans (hb.mono HW.out.size))
            replace BN := hide (boxed_step BN.out hb)
            replace KM04 := hide ((hb.block _ (Array.getElem?_eq_some_iff.1 KM04.out).1).trans KM04.out)
            replace KM15 := hide ((hb.block _ (Array.getElem?_eq_some_iff.1 KM15.out).1).trans KM15.out)
            clear HS HI'
            replace PX := hide (PX.out.step hb)
            replace BE := hide (boxed_step BE.out hb)
            replace BR := hide (boxed_step BR.out hb)
            replace HB := hide (HB.out.trans (hb.mono HB.out.size))
            clear hb
            generalize W15.alloc (.cells #[.int .i64 1] 3) = U15e at *
            obtain ⟨D15e, hD⟩ : ∃ D, D = W15.heap.size := ⟨_, rfl⟩
            have HD := hide hD
            rw [← hD] at BD ⊢
            clear hD
            have d0 := BD.out.cell
            have df := BD.out.frozen
            go_wp2
            rw [rounds_succ]
            clear d0 df
            have HS := hide ((SameBut.refl D15e U15e).set (.int .i64 2))
            replace BD := hide (BD.out.set (.int .i64 2))
            replace HW := hide (HS.out.below HW.out (by have := HD.out; have := GW.out; omega) (by have := HW.out.size; omega))
            replace BN := hide (HS.out.boxed BN.out (by have := HD.out; have := GN.out; omega))
            replace BE := hide (HS.out.boxed BE.out (by have := HD.out; have := GE.out; omega))
            replace BR := hide (HS.out.boxed BR.out (by have := HD.out; have := GR.out; omega))
            replace PX := hide (HS.out.box4 PX.out (by have := HD.out; have := GP.out; omega))
            replace HB := hide (HS.out.below HB.out (by have := HD.out; have := GP.out; have := WPX.out; omega) (by have := HB.out.size; omega))
            replace KM04 := hide ((HS.out.block _ (Array.getElem?_eq_some_iff.1 KM04.out).1 (by have := HD.out; have := GKM04.out; omega)).trans KM04.out)
            replace KM15 := hide ((HS.out.block _ (Array.getElem?_eq_some_iff.1 KM15.out).1 (by have := HD.out; have := GKM15.out; omega)).trans KM15.out)
            clear HS
            generalize U15e.setCell ⟨D15e, 0, none⟩ (.int .i64 2) = T15e at *
            have d0 := BD.out.cell
            have r0 := BR.out.cell
            have rf := BR.out.frozen
            go_wp2
            exact two_marks rfl _ _ w R M04 M15 true rfl ((Below.heap_setCell _ _ _ _ (by show M04 ≠ R; have := ORM04.out; omega)).trans KM04.out) ((Below.heap_setCell _ _ _ _ (by show M15 ≠ R; have := BRI15.out; have := LI15.out; have := GM15.out; omega)).trans KM15.out) (by have := MIM0415.out; have := LI15.out; have := GM15.out; omega) (BR.out.set _) (HB.out.setCell (p := ⟨R, 0, none⟩) (by show w.heap.size ≤ R; have := HZ.out; have := HR.out; omega) _) (by have := OWM04.out; omega) (by have := PXI15.out; have := WPX.out; have := LI15.out; have := GM15.out; omega)
          · exact absurd (hv.elim id (fun h => h.1.elim)) hvn
      · have hs : stop = v := (hv.elim (fun h => absurd h hvn) (fun h => h.2)).symm
        subst hs
        clear hv
        have hvn' : (stop != (cs.length : Nat)) = true := by simpa using hvn
        clear hvn
        go_upto_region 14 with fail
        clear i0 n0 d0 e0
        clear hvn'
        have GN := hide BN.out.lt
        have GE := hide BE.out.lt
        have GR := hide BR.out.lt
        have GP := hide (Box4.lt PX.out)
        have GW := hide HW.out.size
        have GKM04 := hide (Array.getElem?_eq_some_iff.1 KM04.out).1
        have hb := below_alloc W04 (.cells #[.int .i64 0] 3)
        replace BD := hide (Boxed.new W04 3 (.int .i64 0))
        replace HW := hide (HW.out.trans (hb.mono HW.out.size))
        replace BN := hide (boxed_step BN.out hb)
        replace KM04 := hide ((hb.block _ (Array.getElem?_eq_some_iff.1 KM04.out).1).trans KM04.out)
        clear HS HI'
        replace PX := hide (PX.out.step hb)
        replace BE := hide (boxed_step BE.out hb)
        replace BR := hide (boxed_step BR.out hb)
        replace HB := hide (HB.out.trans (hb.mono HB.out.size))
        clear hb
        generalize W04.alloc (.cells #[.int .i64 0] 3) = U04n at *
        obtain ⟨D04n, hD⟩ : ∃ D, D = W04.heap.size := ⟨_, rfl⟩
        have HD := hide hD
        rw [← hD] at BD ⊢
        clear hD
        have d0 := BD.out.cell
        have df := BD.out.frozen
        go_wp2
        rw [rounds_succ]
        clear d0 df
        have HS := hide ((SameBut.refl D04n U04n).set (.int .i64 1))
        replace BD := hide (BD.out.set (.int .i64 1))
        replace HW := hide (HS.out.below HW.out (by have := HD.out; have := GW.out; omega) (by have := HW.out.size; omega))
        replace BN := hide (HS.out.boxed BN.out (by have := HD.out; have := GN.out; omega))
        replace BE := hide (HS.out.boxed BE.out (by have := HD.out; have := GE.out; omega))
        replace BR := hide (HS.out.boxed BR.out (by have := HD.out; have := GR.out; omega))
        replace PX := hide (HS.out.box4 PX.out (by have := HD.out; have := GP.out; omega))
        replace HB := hide (HS.out.below HB.out (by have := HD.out; have := GP.out; have := WPX.out; omega) (by have := HB.out.size; omega))
        replace KM04 := hide ((HS.out.block _ (Array.getElem?_eq_some_iff.1 KM04.out).1 (by have := HD.out; have := GKM04.out; omega)).trans KM04.out)
        clear HS
        generalize U04n.setCell ⟨D04n, 0, none⟩ (.int .i64 1) = T04n at *
        have d0 := BD.out.cell
        go_upto_region 16 with fail
        clear d0
        have BN0 := hide BN.out.lt
        have BD0 := hide BD.out.lt
        have BE0 := hide BE.out.lt
        have BR0 := hide BR.out.lt
        have PX0 := hide PX.out.lt
        have HW0 := hide HW.out.size
        have M0M04 := hide (Array.getElem?_eq_some_iff.1 KM04.out).1
        have hb := below_alloc T04n (.cells #[.int .i64 0] 3)
        have BI := hide (Boxed.new T04n 3 (.int .i64 0))
        replace HW := hide (HW.out.trans (hb.mono HW.out.size))
        replace BN := hide (boxed_step BN.out hb)
        replace BD := hide (boxed_step BD.out hb)
        replace KM04 := hide ((hb.block _ (Array.getElem?_eq_some_iff.1 KM04.out).1).trans KM04.out)
        replace PX := hide (PX.out.step hb)
        replace BE := hide (boxed_step BE.out hb)
        replace BR := hide (boxed_step BR.out hb)
        replace HB := hide (HB.out.trans (hb.mono HB.out.size))
        clear hb
        generalize T04n.alloc (.cells #[.int .i64 0] 3) = V16 at *
        obtain ⟨I16, hI⟩ : ∃ I, I = T04n.heap.size := ⟨_, rfl⟩
        have HI16 := hide hI
        rw [← hI] at BI ⊢
        clear hI
        have BNI16 : Hid (G < I16) := hide (by have := HI16.out; have := BN0.out; omega)
        have BDI16 : Hid (D04n < I16) := hide (by have := HI16.out; have := BD0.out; omega)
        have BEI16 : Hid (E < I16) := hide (by have := HI16.out; have := BE0.out; omega)
        have BRI16 : Hid (R < I16) := hide (by have := HI16.out; have := BR0.out; omega)
        have PXI16 : Hid (B < I16) := hide (by have := HI16.out; have := PX0.out; omega)
        have LWI16 : Hid (w4.heap.size ≤ I16) := hide (by have := HI16.out; have := HW0.out; omega)
        have MIM0416 : Hid (M04 < I16) := hide (by have := HI16.out; have := M0M04.out; omega)
        have LB := hide (Box4.lt PX.out)
        have LI16 : Hid (I16 < V16.heap.size) := hide BI.out.lt
        go_wp2_with fail
        refine (wpIn_wide (n := 3)).1 ?_
        refine range_any False (stop := stop) (cs := cs) (by omega) (gf := 40) (lb := #[.pointer (some ⟨bx, 0, none⟩)]) rfl (enters_of Tryd.func40 (by kernel_rfl) rfl)
          (back_stops 2 (by omega) bx lo w4.heap.size lo vb cs (by have := CL.out; omega) w4 OW.out (Nat.le_refl _) rfl lo0.out X2.out CX.out) Keeps.trans
          (fun W l o o' hl _ _ _ k _ h2 => by rw [World.putObj_heap_other (by have := HW.out.size; omega)]) HW.out (fun _ => rfl)
          BI.out ?assign16 ?body16 ?nx16
        case assign16 =>
          intro l pre x W K hI hK
          obtain ⟨hi, hS⟩ := hI
          obtain ⟨kx, xi⟩ := x
          unfold encN
          simp only [List.zip_toArray, List.zip_cons_cons, List.zip_nil_right, List.foldl_toArray', List.size_toArray, List.length_cons, List.length_nil, List.foldl_cons, List.foldl_nil, List.setIfInBounds_toArray, List.set_cons_succ, List.set_cons_zero]
          gi_wp2
          have b5 := Box5.new W 36 xi
          have ks := KeepsOthers.alloc W (.cells xi.vals 36)
          have kp := keeps_alloc (lo := lo) (hi := w4.heap.size) W (.cells xi.vals 36) (by have := hS.base.size; have := HW.out.size; omega)
          have hi' := boxed_step hi (below_alloc W (.cells xi.vals 36))
          have hS' := hS.alloc (.cells xi.vals 36)
          unfold Ins.vals at b5 ks kp hi' hS'
          generalize W.alloc (.cells #[.int .i64 xi.op, .int .i64 xi.to, .int .i64 xi.a, .int .i64 xi.b, .int .i64 xi.c] 36) = W' at *
          generalize W.heap.size = gx at *
          exact hK _ _ (ks.from _) kp ⟨hi', hS'⟩ ⟨gx, by simp only [fr, encN, List.zip_toArray, List.zip_cons_cons, List.zip_nil_right, List.foldl_toArray', List.size_toArray, List.length_cons, List.length_nil, List.foldl_cons, List.foldl_nil, List.setIfInBounds_toArray, List.set_cons_succ, List.set_cons_zero], b5⟩
        case body16 =>
          rintro l pre x gx W ⟨hi, hS⟩ hbx hlt
          rw [tb_length] at hlt
          exact absurd hlt (by rw [CE.out]; simp)
        case nx16 =>
          rintro M16 W16 v hD hv hi hS hK
          have HS := hide hS
          have HI' := hide hi
          have KM16 := hide hK
          have GM16 := hide hD
          have ORM16 : Hid (R < M16) := hide (by have := BRI16.out; have := LI16.out; omega)
          have OWM16 : Hid (w.heap.size ≤ M16) := hide (by have := PXI16.out; have := WPX.out; have := LI16.out; omega)
          clear hS hi hK hD
          have SZ := hide HS.out.base.size
          replace HW := hide (HS.out.below HW.out (by have := LWI16.out; omega) (by have := HW.out.size; omega))
          replace BN := hide (HS.out.boxed BN.out (by have := BNI16.out; omega))
          replace BD := hide (HS.out.boxed BD.out (by have := BDI16.out; omega))
          replace BE := hide (HS.out.boxed BE.out (by have := BEI16.out; omega))
          replace BR := hide (HS.out.boxed BR.out (by have := BRI16.out; omega))
          replace PX := hide (HS.out.box4 PX.out (by have := PXI16.out; omega))
          replace KM04 := hide ((HS.out.block _ (Array.getElem?_eq_some_iff.1 KM04.out).1 (by have := MIM0416.out; omega)).trans KM04.out)
          replace HB := hide (HS.out.below HB.out (by have := PXI16.out; have := WPX.out; omega) (by have := HB.out.size; omega))
          have i0 := HI'.out.cell
          have n0 := BN.out.cell
          have d0 := BD.out.cell
          have e0 := BE.out.cell
          by_cases hvn : v = (cs.length : Nat)
          · subst hvn
            clear hv
            go_upto_region 14 with fail
            clear i0 n0 d0 e0
            have GN := hide BN.out.lt
            have GE := hide BE.out.lt
            have GR := hide BR.out.lt
            have GP := hide (Box4.lt PX.out)
            have GW := hide HW.out.size
            have GKM04 := hide (Array.getElem?_eq_some_iff.1 KM04.out).1
            have GKM16 := hide (Array.getElem?_eq_some_iff.1 KM16.out).1
            have hb := below_alloc W16 (.cells #[.int .i64 1] 3)
            replace BD := hide (Boxed.new W16 3 (.int .i64 1))
            replace HW := hide (HW.out.trans (hb.mono HW.out.size))
            replace BN := hide (boxed_step BN.out hb)
            replace KM04 := hide ((hb.block _ (Array.getElem?_eq_some_iff.1 KM04.out).1).trans KM04.out)
            replace KM16 := hide ((hb.block _ (Array.getElem?_eq_some_iff.1 KM16.out).1).trans KM16.out)
            clear HS HI'
            replace PX := hide (PX.out.step hb)
            replace BE := hide (boxed_step BE.out hb)
            replace BR := hide (boxed_step BR.out hb)
            replace HB := hide (HB.out.trans (hb.mono HB.out.size))
            clear hb
            generalize W16.alloc (.cells #[.int .i64 1] 3) = U16e at *
            obtain ⟨D16e, hD⟩ : ∃ D, D = W16.heap.size := ⟨_, rfl⟩
            have HD := hide hD
            rw [← hD] at BD ⊢
            clear hD
            have d0 := BD.out.cell
            have df := BD.out.frozen
            go_wp2
            rw [rounds_succ]
            clear d0 df
            have HS := hide ((SameBut.refl D16e U16e).set (.int .i64 2))
            replace BD := hide (BD.out.set (.int .i64 2))
            replace HW := hide (HS.out.below HW.out (by have := HD.out; have := GW.out; omega) (by have := HW.out.size; omega))
            replace BN := hide (HS.out.boxed BN.out (by have := HD.out; have := GN.out; omega))
            replace BE := hide (HS.out.boxed BE.out (by have := HD.out; have := GE.out; omega))
            replace BR := hide (HS.out.boxed BR.out (by have := HD.out; have := GR.out; omega))
            replace PX := hide (HS.out.box4 PX.out (by have := HD.out; have := GP.out; omega))
            replace HB := hide (HS.out.below HB.out (by have := HD.out; have := GP.out; have := WPX.out; omega) (by have := HB.out.size; omega))
            replace KM04 := hide ((HS.out.block _ (Array.getElem?_eq_some_iff.1 KM04.out).1 (by have := HD.out; have := GKM04.out; omega)).trans KM04.out)
            replace KM16 := hide ((HS.out.block _ (Array.getElem?_eq_some_iff.1 KM16.out).1 (by have := HD.out; have := GKM16.out; omega)).trans KM16.out)
            clear HS
            generalize U16e.setCell ⟨D16e, 0, none⟩ (.int .i64 2) = T16e at *
            have d0 := BD.out.cell
            have r0 := BR.out.cell
            have rf := BR.out.frozen
            go_wp2
            exact two_marks rfl _ _ w R M04 M16 true rfl ((Below.heap_setCell _ _ _ _ (by show M04 ≠ R; have := ORM04.out; omega)).trans KM04.out) ((Below.heap_setCell _ _ _ _ (by show M16 ≠ R; have := BRI16.out; have := LI16.out; have := GM16.out; omega)).trans KM16.out) (by have := MIM0416.out; have := LI16.out; have := GM16.out; omega) (BR.out.set _) (HB.out.setCell (p := ⟨R, 0, none⟩) (by show w.heap.size ≤ R; have := HZ.out; have := HR.out; omega) _) (by have := OWM04.out; omega) (by have := PXI16.out; have := WPX.out; have := LI16.out; have := GM16.out; omega)
          · exact absurd (hv.elim id (fun h => h.1.elim)) hvn
end Go.Proofs.YtlbjkfnknkpkiaaDoor
