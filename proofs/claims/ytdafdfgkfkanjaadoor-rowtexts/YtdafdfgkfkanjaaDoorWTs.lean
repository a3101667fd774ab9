/- How long a row's text is. -/
import Derived.Test.YtdafdfgkfkanjaaDoorRgLaw
import Derived.Test.YtdafdfgkfkanjaaDoorInt
import Derived.Test.YtdafdfgkfkanjaaDoorWApp
import Derived.Test.YtdafdfgkfkanjaaDoorSpl
import Derived.Test.YtdafdfgkfkanjaaDoorWList
import Derived.Test.YtdafdfgkfkanjaaDoorIRead
import Derived.Test.YtdafdfgkfkanjaaDoorTx
import Derived.Test.YtdafdfgkfkanjaaDoorCalm3
import Derived.Test.YtdafdfgkfkanjaaDoorPre
import Derived.Test.YtdafdfgkfkanjaaDoorR2Law
import Derived.Test.YtdafdfgkfkanjaaDoorWOf
import Derived.Test.YtdafdfgkfkanjaaDoorWText
import Derived.Test.YtdafdfgkfkanjaaDoorWLong
namespace Go.Proofs.YtdafdfgkfkanjaaDoor
open Go.RowKit Go.Shelf

theorem boxed_step {W W' : World} {B : Nat} {t : TypeId} {v : Value} (h : Boxed W B t v) (hb : Below W.heap.size W W') : Boxed W' B t v := (hb.block B h.lt).trans h
/-- marks of ranges that are through -/
def mksC (ds : List Nat) : List Deferred := ds.map fun D => { target := .collected D, args := #[] }
def MarksC (ds : List Nat) (B : Nat) (w : World) : Prop := ds.Nodup ∧ ∀ D ∈ ds, B ≤ D ∧ w.heap[D]? = some (.deferred (some []))
theorem MarksC.one {D B : Nat} {w : World} (h : B ≤ D) (hd : w.heap[D]? = some (.deferred (some []))) : MarksC [D] B w := ⟨by simp, fun E hE => by simp at hE; subst hE; exact ⟨h, hd⟩⟩
theorem leavesC {n : Nat} {fn : Func} {tmps : Array Value} {R : Ending → World → Prop} {β : Type} {B : Nat} {I : β → World → Prop} (hI : OwnFrom B I) (s : β) (hR : ∀ V, I s V → ∃ v, (results fn tmps).run Tryd.prog V = .ok v V ∧ R (.returned v) V) :
    ∀ (ds : List Nat) (W : World), MarksC ds B W → I s W → LeavesInM Fence.wide n Tryd.prog fn tmps R (mksC ds) .returning W
  | [], W, _, h => by obtain ⟨v, h1, h2⟩ := hR W h; exact ⟨_, h1, h2⟩
  | D :: ds, W, hm, h => by
    have hD := hm.2 D (by simp)
    have hn' := List.nodup_cons.1 hm.1
    refine ⟨by simp, .inl ⟨_, _, rfl, run_takeDeferred hD.2, leavesC hI s hR ds _ ⟨hn'.2, fun E hE => ⟨(hm.2 E (by simp [hE])).1, ?_⟩⟩ (hI.putObj _ h hD.1 hD.2 rfl)⟩⟩
    exact (World.putObj_heap_other (by rintro rfl; exact hn'.1 hE)).trans (hm.2 E (by simp [hE])).2
def postC (n : Nat) (fn : Func) (R : Ending → World → Prop) : Exit → Act → World → Prop
  | .normal, a, w | .ret, a, w => LeavesInM Fence.wide n Tryd.prog fn a.tmps R a.defers .returning w
  | _, _, _ => False
theorem postC_sub {n : Nat} {fn : Func} {R : Ending → World → Prop} (e : Exit) (a : Act) (w : World) (h : postC n fn R e a w) : bodyPostM Fence.wide n Tryd.prog fn R e a w := by
  cases e <;> first | exact h | exact h.elim
set_option maxRecDepth 100000 in
theorem callsC {n : Nat} {f : FuncId} {fn : Func} {c : Code} {args : Array Value} {w : World} {R : Ending → World → Prop} (hf : Tryd.prog.funcs[f]? = some fn) (hb : fn.body = some c)
    (h : c.wp Tryd.prog (postC n fn R) { tmps := args ++ Array.replicate (fn.ntmps - args.size) undef, defers := [] } w) : Calls Tryd.prog f args w R :=
  (callsIn_wide (n := n)).1 (callsIn_of_wp_marks hf hb trivial (wpIn_wide.2 (wp_mono h postC_sub)) rfl)

/-- a block of cells that is none of limbs -/
def NoLimb (W : World) (b : Nat) : Prop := ∀ o z, W.cell? ⟨b, o, none⟩ ≠ some (.int .u32 z)
theorem spares_row {X Y : World} {b : Nat} (hg : X.grownBy Y (some b)) (hb : NoLimb X b) : Spares X Y := by
  intro u ys hn
  obtain ⟨ho, a, cap, rfl, h1, h2, h3⟩ := hn
  refine ⟨ho, a, cap, rfl, h1, h2, fun hx => ?_⟩
  obtain ⟨c, off, rfl, hcell⟩ := h3 hx
  exact ⟨c, off, rfl, fun i hi => hg.cell (hcell i hi) fun e => by simp only [Option.some.injEq] at e; subst e; exact hb _ _ (hcell i hi)⟩
theorem spares_none {X Y : World} {row : Option Nat} (hg : X.grownBy Y row) (hr : ∀ r, row = some r → ∃ o : Obj, X.heap[r]? = some o ∧ o.isCells = false) : Spares X Y := by
  cases row with
  | none =>
    intro u ys hn
    obtain ⟨ho, a, cap, rfl, h1, h2, h3⟩ := hn
    refine ⟨ho, a, cap, rfl, h1, h2, fun hx => ?_⟩
    obtain ⟨c, off, rfl, hcell⟩ := h3 hx
    exact ⟨c, off, rfl, fun i hi => hg.cell (hcell i hi) (by simp)⟩
  | some b =>
    refine spares_row hg fun o z h => ?_
    obtain ⟨ob, h1, h2⟩ := hr b rfl
    cases ob <;> simp_all [World.cell?, Obj.isCells]
theorem Boxed.noLimb {W : World} {b : Nat} {t : TypeId} {v : Value} (h : Boxed W b t v) (hv : ∀ z, v ≠ .int .u32 z) : NoLimb W b := fun o z e => by
  unfold World.cell? at e
  rw [show W.heap[b]? = _ from h] at e
  match o with
  | 0 => simp at e; exact hv z e
  | o + 1 => simp at e
theorem Box2.noLimb {W : World} {b : Nat} {t : TypeId} {x y : Value} (h : Box2 W b t x y) (hx : ∀ z, x ≠ .int .u32 z) (hy : ∀ z, y ≠ .int .u32 z) : NoLimb W b := fun o z e => by
  unfold World.cell? at e
  rw [show W.heap[b]? = _ from h] at e
  match o with
  | 0 => simp at e; exact hx z e
  | 1 => simp at e; exact hy z e
  | o + 2 => simp at e
theorem own_upC {β : Type} {B C : Nat} {I : β → World → Prop} (h : OwnFrom B I) (hBC : B ≤ C) : OwnFrom C I := fun s X Y row hs hg hr => h s X Y row hs hg (fun r e => ⟨Nat.le_trans hBC (hr r e).1, (hr r e).2⟩)
theorem below_ownC {β : Type} {T C : Nat} {A : World} (h : T ≤ C) (h2 : T ≤ A.heap.size) : OwnFrom C (fun (_ : β) Z => Below T A Z) := fun _ _ _ _ hs hg hr => hs.grown hg (Nat.le_trans h2 hs.size) (fun r e => Nat.le_trans h (hr r e).1)
theorem box2_own {β : Type} (B : Nat) (t : TypeId) (f g : β → Value) : Go.Own (fun s W => Box2 W B t (f s) (g s)) := fun s X Y row hs hg hrow =>
  (hg.block B hs.lt (fun e' => by obtain ⟨o, ho, hc⟩ := hrow B e'.symm; rw [show X.heap[B]? = _ from hs] at ho; cases ho; cases hc)).trans hs
/-- what a round keeps: what is no cell from B on, the blocks from lo to hi, what was there at T -/
structure Rn (B lo hi : Nat) (X Y : World) : Prop where
  kf : KeepsFrom B X Y
  kc : ∀ k, lo ≤ k → k < hi → Y.heap[k]? = X.heap[k]?
theorem Rn.refl (B lo hi : Nat) (X : World) : Rn B lo hi X X := ⟨KeepsFrom.refl _ _, fun _ _ _ => rfl⟩
theorem Rn.trans {B lo hi : Nat} {X Y Z : World} (h : Rn B lo hi X Y) (k : Rn B lo hi Y Z) : Rn B lo hi X Z := ⟨h.kf.trans k.kf, fun i h1 h2 => (k.kc i h1 h2).trans (h.kc i h1 h2)⟩
theorem Rn.below {B lo hi : Nat} {X Y : World} (hb : Below X.heap.size X Y) (hs : hi ≤ X.heap.size) : Rn B lo hi X Y :=
  ⟨⟨hb.size, fun k o _ hk _ => (hb.block k (Array.getElem?_eq_some_iff.1 hk).1).trans hk⟩, fun i _ h2 => hb.block i (by omega)⟩
theorem Rn.set {B lo hi b o : Nat} (X : World) (v : Value) (h : b < lo ∨ hi ≤ b) : Rn B lo hi X (X.setCell ⟨b, o, none⟩ v) :=
  ⟨(KeepsOthers.setCell _ _ _).from _, fun i h1 h2 => Below.heap_setCell _ _ _ _ (by show i ≠ b; omega)⟩
theorem Rn.grown {B lo hi : Nat} {X Y : World} {row : Option Nat} (hg : X.grownBy Y row) (hr : ∀ r, row = some r → (r < lo ∨ hi ≤ r) ∧ ∃ cs t f, X.heap[r]? = some (.cells cs t f)) (hs : hi ≤ X.heap.size) : Rn B lo hi X Y :=
  ⟨⟨hg.size, fun k o _ hk ho => (hg.block k (Array.getElem?_eq_some_iff.1 hk).1 (fun e => by obtain ⟨_, cs, t, f, h⟩ := hr k e.symm; rw [hk] at h; cases h; cases ho)).trans hk⟩,
   fun i h1 h2 => hg.block i (by omega) (fun e => by have := (hr i e.symm).1; omega)⟩
end Go.Proofs.YtdafdfgkfkanjaaDoor

namespace Go.Proofs.YtdafdfgkfkanjaaDoor
open Go.RowKit

theorem run_app2 {P : Program} (w : World) (t ty : TypeId)
    (base : Nat) (e : TypeId) (i : TypeInfo) (ht : P.underlying t = some (.slice e)) (hi : P.info? e = some i) (hz : i.zero = some (.agg #[.bool false, .slice none 0 0])) (hsize : i.size = 2) (hby : i.bytes = 32)
    (v : Value) (n : Nat) (xs : List Value) (hown : Own2 w base e v n xs)
    (b c : Nat) (b0 : Bool) (m0 : Option Addr) (l0 c0 : Nat) (hc0 : w.cell? ⟨b, 0, none⟩ = some (.bool b0)) (hc1 : w.cell? ⟨b, 1, none⟩ = some (.slice m0 l0 c0))
    (hn : n ≤ 1000000000) (hbase : base ≤ w.heap.size) :
    ∃ v' w', (Builtin.append_ #[t, t] ty #[v, .slice (some ⟨b, 0, none⟩) 1 c]).run P w = .ok v' w' ∧ Own2 w' base e v' (n + 1) (xs ++ [.bool b0, .slice m0 l0 c0]) ∧ w.grownBy w' v.ownBlock ∧ (v'.ownBlock = v.ownBlock ∨ v'.ownBlock = some w.heap.size) := by
  have hl : ([.bool b0, .slice m0 l0 c0] : List Value).length = 1 * i.size := by rw [hsize]; rfl
  have hnews : ∀ j u, ([.bool b0, .slice m0 l0 c0] : List Value)[j]? = some u → w.cell? ((⟨b, 0, none⟩ : Addr).add j) = some u := by
    intro j u hj
    match j with
    | 0 => simp only [List.getElem?_cons_zero, Option.some.injEq] at hj; rw [← hj]; exact hc0
    | 1 => simp only [List.getElem?_cons_succ, List.getElem?_cons_zero, Option.some.injEq] at hj; rw [← hj]; exact hc1
    | j + 2 => simp at hj
  have h1 : ∀ u ∈ ([.bool b0, .slice m0 l0 c0] : List Value), u.oneCell' = true := by
    intro u hu
    simp only [List.mem_cons, List.not_mem_nil, or_false] at hu
    rcases hu with rfl | rfl <;> rfl
  have hnu : ∀ u ∈ ([.bool b0, .slice m0 l0 c0] : List Value), ∀ z, u ≠ .int .u32 z := by
    intro u hu z
    simp only [List.mem_cons, List.not_mem_nil, or_false] at hu
    rcases hu with rfl | rfl <;> simp
  have hzn : ∀ k, ∀ u ∈ (Builtin.zeroCells #[.bool false, .slice none 0 0] k).toList, ∀ z, u ≠ .int .u32 z := by
    intro k u hu z
    rcases mem_zeroCells hu with rfl | rfl <;> simp
  have h63 : n + 1 ≤ maxLen := by unfold maxLen; omega
  obtain ⟨v', w', hr, h2, h3, h4⟩ := run_append_own (P := P) w base t ty e i _ 2 32 ht hi hz hsize hby rfl (by decide) v n xs hown.1 ⟨b, 0, none⟩ 1 c [.bool b0, .slice m0 l0 c0] (by rw [hl, hsize]) hnews h1 h63 (by omega) hbase
  have hp : (∀ g cur tt fr, v'.ownBlock = some g → w'.heap[g]? = some (.cells cur tt fr) → ∀ u ∈ cur.toList, ∀ z, u ≠ .int .u32 z) ∧ (v'.ownBlock = v.ownBlock ∨ v'.ownBlock = some w.heap.size) := by
    rcases hown.1.2 with ⟨rfl, rfl⟩ | ⟨g0, cap, cur0, rfl, hbg, hg0, hnc, hcm, hcs, htake⟩
    · have hr' := run_append_nil (P := P) w t ty e i _ ht hi hz ⟨b, 0, none⟩ 1 c [.bool b0, .slice m0 l0 c0] hl hnews (by decide) (by decide) (by rw [hby]; decide)
      rw [hr'] at hr
      simp only [Result.ok.injEq] at hr
      obtain ⟨rfl, rfl⟩ := hr
      refine ⟨?_, .inr rfl⟩
      intro g cur tt fr hg hh u hu z
      have e : w.heap.size = g := by simpa [Value.ownBlock] using hg
      subst e
      rw [show (w.heap.size : Nat) = w.drew.heap.size from rfl, heap_alloc_new] at hh
      simp only [Option.some.injEq, Obj.cells.injEq] at hh
      obtain ⟨rfl, _⟩ := hh
      rw [Array.toList_append] at hu
      rcases List.mem_append.1 hu with hu | hu
      · exact hnu u (by simpa using hu) z
      · exact hzn _ u hu z
    · have hall := hown.2 g0 cur0 e (0, 0) rfl hg0
      by_cases hroom : n + 1 ≤ cap
      · have hfit : n * i.size + ([.bool b0, .slice m0 l0 c0] : List Value).length ≤ cur0.size := by rw [hsize, hcs]; show n * 2 + 2 ≤ cap * 2; omega
        have hr' := run_append_room (P := P) w t ty e i ht hi g0 n cap cur0 hg0 ⟨b, 0, none⟩ 1 c [.bool b0, .slice m0 l0 c0] hl hnews h1 hroom hfit
        rw [hr'] at hr
        simp only [Result.ok.injEq] at hr
        obtain ⟨rfl, rfl⟩ := hr
        refine ⟨?_, .inl rfl⟩
        intro g cur tt fr hg hh u hu z
        have e : g0 = g := by simpa [Value.ownBlock] using hg
        subst e
        rw [setRow_heap w g0 cur0 _ _ _ hg0] at hh
        simp only [Option.some.injEq, Obj.cells.injEq] at hh
        obtain ⟨rfl, _⟩ := hh
        simp only [List.mem_append] at hu
        rcases hu with (hu | hu) | hu
        · exact hall u (List.mem_of_mem_take hu) z
        · exact hnu u hu z
        · exact hall u (List.mem_of_mem_drop hu) z
      · have holds : ∀ j u, xs[j]? = some u → w.cell? ((⟨g0, 0, none⟩ : Addr).add j) = some u := hown.1.cells (g := g0) rfl
        have hr' := run_append_grow (P := P) w t ty e i _ ht hi hz ⟨g0, 0, none⟩ n cap xs (by rw [hsize]; exact hown.1.1) holds ⟨b, 0, none⟩ 1 c [.bool b0, .slice m0 l0 c0] hl hnews (by omega) (by omega) (growslice_fits (by omega) (by rw [hby]; omega))
        rw [hr'] at hr
        simp only [Result.ok.injEq] at hr
        obtain ⟨rfl, rfl⟩ := hr
        refine ⟨?_, .inr rfl⟩
        intro g cur tt fr hg hh u hu z
        have e : w.heap.size = g := by simpa [Value.ownBlock] using hg
        subst e
        rw [show (w.heap.size : Nat) = w.drew.heap.size from rfl, heap_alloc_new] at hh
        simp only [Option.some.injEq, Obj.cells.injEq] at hh
        obtain ⟨rfl, _⟩ := hh
        simp only [Array.toList_append, List.mem_append] at hu
        rcases hu with (hu | hu) | hu
        · rw [← htake] at hu; exact hall u (List.mem_of_mem_take (by simpa using hu)) z
        · exact hnu u (by simpa using hu) z
        · exact hzn _ u hu z
  exact ⟨v', w', hr, ⟨h2, hp.1⟩, h3, hp.2⟩

theorem wpListIn_app2 {F : Fence} {fn : Nat} {P : Program} (w : World) {ops : Array Oper} {rest : List Oper} {o : Oper} {a : Act} {Q : Exit → Act → World → Prop}
    (hg : o.guard = none) (s x : Operand) (t : TypeId) (hop : o.op = Op.call { callee := Callee.builtin Builtin.append, args := #[s, x], argTypes := #[t, t] })
    (base : Nat) (e : TypeId) (i : TypeInfo) (ht : P.underlying t = some (.slice e)) (hi : P.info? e = some i) (hz : i.zero = some (.agg #[.bool false, .slice none 0 0])) (hsize : i.size = 2) (hby : i.bytes = 32)
    (v : Value) (n : Nat) (xs : List Value) (hs : a.eval s = v) (hown : Own2 w base e v n xs)
    (b c : Nat) (b0 : Bool) (m0 : Option Addr) (l0 c0 : Nat) (hx : a.eval x = .slice (some ⟨b, 0, none⟩) 1 c) (hc0 : w.cell? ⟨b, 0, none⟩ = some (.bool b0)) (hc1 : w.cell? ⟨b, 1, none⟩ = some (.slice m0 l0 c0))
    (hn : n ≤ 1000000000) (hbase : base ≤ w.heap.size)
    (hK : ∀ v' w', Own2 w' base e v' (n + 1) (xs ++ [.bool b0, .slice m0 l0 c0]) → w.grownBy w' v.ownBlock → (v'.ownBlock = v.ownBlock ∨ v'.ownBlock = some w.heap.size) → wpListIn F fn P ops Q rest (a.put o.dst v') w') :
    wpListIn F fn P ops Q (o :: rest) a w := by
  refine wpListIn_plain hg fun K hK' => ?_
  obtain ⟨v', w', hrun, r1, r2, r4⟩ := run_app2 (P := P) w t o.type base e i ht hi hz hsize hby v n xs hown b c b0 m0 l0 c0 hc0 hc1 hn hbase
  unfold Oper.wpIn
  refine ⟨?_, ?_⟩
  · simp [Oper.about, hop, resolve, Target.leads, Sem.run_pure]
  · rw [Oper.semAt_plain F _ _ (by rw [hop]; intro c hc'; cases hc')]
    simp [execOp, hop, resolve, invoke, builtin, hs, hx, hrun, Result.andThen]
    exact hK' _ _ (hK v' w' r1 r2 r4)
end Go.Proofs.YtdafdfgkfkanjaaDoor

namespace Go.Proofs.YtdafdfgkfkanjaaDoor
open Go.RowKit Go.Shelf
attribute [local go_sem] Oper.semAt_some

theorem str_empty (s : ByteArray) : s.toList.isEmpty = decide (s.size = 0) := by
  rw [ByteArray.toList_eq]
  cases h : s.data.toList with
  | nil => have : s.size = 0 := by show s.data.size = 0; rw [← Array.length_toList, h]; rfl
           simp [this]
  | cons a l => have : s.size ≠ 0 := by show s.data.size ≠ 0; rw [← Array.length_toList, h]; simp
                simp [this]
/-- how many bytes pieces have, each with the byte behind it -/
def tot (ps : List ByteArray) : Nat := (ps.map fun p => p.size + 1).sum
theorem tot_nil : tot [] = 0 := rfl
theorem tot_app (ps : List ByteArray) (x : ByteArray) : tot (ps ++ [x]) = tot ps + x.size + 1 := by simp [tot]; omega
theorem spl_tot (c : UInt8) : ∀ l : List UInt8, ((spl c l).map fun p => p.length + 1).sum = l.length + 1 ∧ spl c l ≠ []
  | [] => ⟨rfl, by simp [spl]⟩
  | b :: l => by
    have h := spl_tot c l
    rw [spl]
    split
    · refine ⟨?_, by simp⟩
      rw [List.map_cons, List.sum_cons, h.1]; simp; omega
    · cases hs : spl c l with
      | nil => exact absurd hs h.2
      | cons q qs =>
        refine ⟨?_, by simp⟩
        have h1 := h.1
        rw [hs, List.map_cons, List.sum_cons] at h1
        simp only [List.map_cons, List.sum_cons, List.length_cons]
        omega
theorem tot_splB (c : UInt8) (s : ByteArray) : tot (splB c s) = s.size + 1 := by
  unfold tot splB
  rw [List.map_map, ← bl_len, ← (spl_tot c (bl s)).1]
  congr 1
theorem spl_few (c : UInt8) (s : ByteArray) : (splB c s).length ≤ s.size + 1 := by
  rw [← tot_splB c s]
  unfold tot
  generalize splB c s = ps
  induction ps with
  | nil => simp
  | cons p ps ih => simp only [List.length_cons, List.map_cons, List.sum_cons]; omega
theorem tot_append (ps qs : List ByteArray) : tot (ps ++ qs) = tot ps + tot qs := by simp [tot]
theorem tot_pre {ps qs : List ByteArray} (h : ps <+: qs) : tot ps ≤ tot qs := by
  obtain ⟨t, rfl⟩ := h
  rw [tot_append]; omega
/-- all pieces are numbers, these -/
def AllRd (ps : List ByteArray) (zs : List Int) : Prop := zs.length = ps.length ∧ ∀ i, i < ps.length → IRd (ps.getD i ByteArray.empty) (zs.getD i 0) 0 0
theorem AllRd.nil : AllRd [] [] := ⟨rfl, fun i hi => absurd hi (by simp)⟩
theorem AllRd.app {ps : List ByteArray} {zs : List Int} {x : ByteArray} {z : Int} (h : AllRd ps zs) (k : IRd x z 0 0) : AllRd (ps ++ [x]) (zs ++ [z]) := by
  refine ⟨by simp [h.1], fun i hi => ?_⟩
  rcases Nat.lt_or_ge i ps.length with h1 | h1
  · rw [List.getD_eq_getElem?_getD, List.getElem?_append_left h1, List.getD_eq_getElem?_getD, List.getElem?_append_left (by rw [h.1]; exact h1), ← List.getD_eq_getElem?_getD, ← List.getD_eq_getElem?_getD]
    exact h.2 i h1
  · have e : i = ps.length := by simp at hi; omega
    subst e
    rw [List.getD_eq_getElem?_getD, List.getElem?_append_right (Nat.le_refl _), List.getD_eq_getElem?_getD, List.getElem?_append_right (by rw [h.1]; exact Nat.le_refl _), h.1]
    simpa using k
/-- what is told where all are numbers: too many, or nothing -/
def spE (ps : List ByteArray) : Nat := if ps.length ≤ 4096 then 0 else 3
def spA (ps : List ByteArray) : Nat := if ps.length ≤ 4096 then 0 else 1 + tot (ps.take 4096)
theorem sp_same {ps : List ByteArray} {x : ByteArray} (h : ps.length ≠ 4096) : spE (ps ++ [x]) = spE ps ∧ spA (ps ++ [x]) = spA ps := by
  unfold spE spA
  rw [List.length_append, List.length_singleton]
  rcases Nat.lt_or_ge ps.length 4096 with h1 | h1
  · rw [if_pos (by omega), if_pos (by omega), if_pos (by omega), if_pos (by omega)]; exact ⟨rfl, rfl⟩
  · rw [if_neg (by omega), if_neg (by omega), if_neg (by omega), if_neg (by omega), List.take_append_of_le_length (by omega)]; exact ⟨rfl, rfl⟩
theorem sp_new {ps : List ByteArray} {x : ByteArray} (h : ps.length = 4096) : spE (ps ++ [x]) = 3 ∧ spA (ps ++ [x]) = 1 + tot ps := by
  unfold spE spA
  rw [List.length_append, List.length_singleton, if_neg (by omega), if_neg (by omega), List.take_append_of_le_length (by omega), ← h, List.take_length]
  exact ⟨rfl, rfl⟩
def RNum (s : ByteArray) (v : Value) (a b : Nat) (w : World) : Prop :=
  (s.size = 0 ∧ v = .slice none 0 0 ∧ a = 0 ∧ b = 0) ∨
  (s.size ≠ 0 ∧ ∃ zs, AllRd (splB 32 s) zs ∧ Ints w v zs ∧ a = spE (splB 32 s) ∧ b = spA (splB 32 s)) ∨
  (s.size ≠ 0 ∧ ∃ pre x z b', pre ++ [x] <+: splB 32 s ∧ (∃ zs, AllRd pre zs) ∧ IRd x z a b' ∧ a ≠ 0 ∧ b = 1 + tot pre + b')

theorem ListI.cells {w : World} {base : Nat} {v : Value} {zs : List Int} (h : ListI w base v zs) {g : Nat} (hg : v.ownBlock = some g) : ∃ cs t f, w.heap[g]? = some (.cells cs t f) := by
  obtain ⟨xs, ⟨⟨_, h1⟩, _⟩, _⟩ := h
  rcases h1 with ⟨rfl, _⟩ | ⟨g', cap, cur', rfl, _, hh', q⟩
  · cases hg
  · have e : g' = g := by simpa [Value.ownBlock] using hg
    subst e
    exact ⟨_, _, _, hh'⟩
theorem ListI.grow {X Y : World} {base : Nat} {v : Value} {zs : List Int} {row : Option Nat} (h : ListI X base v zs) (hg : X.grownBy Y row) (hr : ∀ r, row = some r → ∃ o : Obj, X.heap[r]? = some o ∧ o.isCells = false) : ListI Y base v zs :=
  h.other hg (spares_none hg hr) fun g hv e => by
    obtain ⟨cs, t, f, hc⟩ := h.cells hv
    obtain ⟨o, ho, hn⟩ := hr g e
    rw [hc] at ho
    cases ho
    cases hn
theorem ListI.setC {X : World} {base b o : Nat} {v u : Value} {zs : List Int} (h : ListI X base v zs) (hb : NoLimb X b) (hlt : b < base) : ListI (X.setCell ⟨b, o, none⟩ u) base v zs := by
  have hg : X.grownBy (X.setCell ⟨b, o, none⟩ u) (some b) := ⟨rfl, rfl, rfl, by simp [World.setCell], fun k _ h => Below.heap_setCell _ _ _ _ (by simpa using h)⟩
  exact h.other hg (spares_row hg hb) fun g hv e => by have := (h.lt hv).1; simp only [Option.some.injEq] at e; omega
theorem res_ts {fn : Func} {p q : Tmp} (h : fn.results = #[.tmp p, .cell q 33]) (tmps : Array Value) (w : World) (g : Nat) (x y : Value) (hq : tmps.getD q undef = .pointer (some ⟨g, 0, none⟩)) (hg : Box2 w g 33 x y) :
    (results fn tmps).run Tryd.prog w = .ok (.tuple #[tmps.getD p undef, .agg #[x, y]]) w := by
  have hq' : tmps[q]?.getD undef = .pointer (some ⟨g, 0, none⟩) := by simpa using hq
  simp [results, h, hq', asAddr, run_loadVar_row w g 33 33 #[x, y] (0, 0) _ hg Tryd.underlying33 rfl Tryd.infoSpot]
theorem bx_set {X : World} {b c o : Nat} {t : TypeId} {v u : Value} (h : Boxed X b t v) (hne : b ≠ c) : Boxed (X.setCell ⟨c, o, none⟩ u) b t v := (Below.heap_setCell _ _ _ _ hne).trans h
theorem bx2_set {X : World} {b c o : Nat} {t : TypeId} {v y u : Value} (h : Box2 X b t v y) (hne : b ≠ c) : Box2 (X.setCell ⟨c, o, none⟩ u) b t v y := (Below.heap_setCell _ _ _ _ hne).trans h
theorem bxi_set {X : World} {b c o : Nat} {v y u : Value} (h : Box X b v y) (hne : b ≠ c) : Box (X.setCell ⟨c, o, none⟩ u) b v y := (Below.heap_setCell _ _ _ _ hne).trans h
theorem IRd.bsmall {s : ByteArray} {z : Int} {a b : Nat} (h : IRd s z a b) : b ≤ 65536 + s.size + 1 := by
  rcases h with ⟨_, _, _, rfl⟩ | ⟨_, _, _, _, _, rfl⟩ | ⟨_, _, xs, a', b', hr, (⟨_, _, _, rfl⟩ | ⟨_, _, _, rfl⟩)⟩
  · omega
  · omega
  · have := hr.small.2; omega
  · omega
/-- what stands while the pieces are read -/
structure RS (w : World) (base R L S A bs : Nat) (pre sp : List ByteArray) (Z : World) (v : Value) (zs : List Int) (x : ByteArray) : Prop where
  l : Boxed Z L 25 v
  li : ListI Z base v zs
  rd : AllRd pre zs
  s : Box2 Z S 33 (.int .i64 (spE sp : Nat)) (.int .i64 (spA sp : Nat))
  a : Boxed Z A 3 (.int .i64 (1 + tot pre : Nat))
  r : Box2 Z R 33 (.int .i64 0) (.int .i64 0)
  b : Boxed Z bs 9 (.string x)
  w : Below w.heap.size w Z
  z : base ≤ Z.heap.size
theorem RS.below {w : World} {base R L S A bs : Nat} {pre sp : List ByteArray} {Z Z' : World} {v : Value} {zs : List Int} {x : ByteArray} (q : RS w base R L S A bs pre sp Z v zs x) (hb : Below Z.heap.size Z Z') : RS w base R L S A bs pre sp Z' v zs x :=
  ⟨boxed_step q.l hb, q.li.below hb, q.rd, q.s.step hb, boxed_step q.a hb, q.r.step hb, boxed_step q.b hb, q.w.trans (hb.mono q.w.size), Nat.le_trans q.z hb.size⟩
theorem RS.spot {w : World} {base R L S A bs : Nat} {pre sp : List ByteArray} {Z : World} {v : Value} {zs : List Int} {x : ByteArray} (q : RS w base R L S A bs pre sp Z v zs x) (sp' : List ByteArray) (hw : w.heap.size ≤ S) (h1 : S ≠ L) (h2 : S ≠ A) (h3 : S ≠ R) (h4 : S ≠ bs) (h5 : S < base) :
    RS w base R L S A bs pre sp' ((Z.setCell ⟨S, 0, none⟩ (.int .i64 (spE sp' : Nat))).setCell ⟨S, 1, none⟩ (.int .i64 (spA sp' : Nat))) v zs x :=
  have n1 := Box2.noLimb q.s (by simp) (by simp)
  have n2 := Box2.noLimb (q.s.set0 (.int .i64 (spE sp' : Nat))) (by simp) (by simp)
  ⟨bx_set (bx_set q.l (Ne.symm h1)) (Ne.symm h1), (q.li.setC n1 h5).setC n2 h5, q.rd, q.s.put _ _, bx_set (bx_set q.a (Ne.symm h2)) (Ne.symm h2), bx2_set (bx2_set q.r (Ne.symm h3)) (Ne.symm h3), bx_set (bx_set q.b (Ne.symm h4)) (Ne.symm h4),
   (q.w.setCell (p := ⟨S, 0, none⟩) hw _).setCell (p := ⟨S, 1, none⟩) hw _, by have := q.z; simpa [World.setCell] using this⟩
theorem RS.spares {w : World} {base R L S A bs : Nat} {pre sp : List ByteArray} {Z : World} {v : Value} {zs : List Int} {x : ByteArray} (q : RS w base R L S A bs pre sp Z v zs x) (a b : Nat) : Spares Z ((Z.setCell ⟨S, 0, none⟩ (.int .i64 (a : Nat))).setCell ⟨S, 1, none⟩ (.int .i64 (b : Nat))) :=
  Box2.keeps q.s (by simp) (by simp) _ _
theorem RS.kept {w : World} {base R L S A bs : Nat} {pre sp : List ByteArray} {Z : World} {v : Value} {zs : List Int} {x : ByteArray} (q : RS w base R L S A bs pre sp Z v zs x) {Z5 : World} (hg : Z.grownBy Z5 v.ownBlock) {b : Nat} {o : Obj} (hb : b < base) (ho : Z.heap[b]? = some o) : Z5.heap[b]? = some o :=
  (hg.block b (Array.getElem?_eq_some_iff.1 ho).1 (fun e => by have := (q.li.lt e.symm).1; omega)).trans ho
theorem RS.next {w : World} {base R L S A bs : Nat} {pre sp : List ByteArray} {Z : World} {v : Value} {zs : List Int} {y : ByteArray} (q : RS w base R L S A bs pre sp Z v zs y) {x : ByteArray} {z : Int} {Z5 : World} {v' : Value} (hsp : sp = pre ++ [x]) (hrd : IRd x z 0 0) (hli : ListI Z5 base v' (zs ++ [z])) (hv : ∀ u, v ≠ .int .u32 u)
    (hg : Z.grownBy Z5 v.ownBlock) (n : R < L ∧ L < S ∧ S < A ∧ A < bs ∧ bs + 3 ≤ base) (hw : w.heap.size ≤ R) (hwb : w.heap.size ≤ base) :
    RS w base R L S A bs (pre ++ [x]) (pre ++ [x]) ((Z5.setCell ⟨L, 0, none⟩ v').setCell ⟨A, 0, none⟩ (.int .i64 (1 + tot pre + (x.size + 1) : Nat))) v' (zs ++ [z]) y := by
  have kl : Boxed Z5 L _ _ := q.kept hg (by omega) q.l
  have ka : Boxed Z5 A _ _ := q.kept hg (by omega) q.a
  have ks : Box2 Z5 S _ _ _ := q.kept hg (by omega) q.s
  have kr : Box2 Z5 R _ _ _ := q.kept hg (by omega) q.r
  have kb : Boxed Z5 bs _ _ := q.kept hg (by omega) q.b
  have n1 := Boxed.noLimb kl hv
  have n2 := Boxed.noLimb (bx_set (o := 0) (u := v') ka (c := L) (by omega)) (by simp)
  have e : 1 + tot pre + (x.size + 1) = 1 + tot (pre ++ [x]) := by rw [tot_app]; omega
  rw [e]
  subst hsp
  exact ⟨bx_set (kl.set _) (by omega), (hli.setC n1 (by omega)).setC n2 (by omega), q.rd.app hrd, bx2_set (bx2_set ks (by omega)) (by omega), (bx_set ka (by omega)).set _, bx2_set (bx2_set kr (by omega)) (by omega), bx_set (bx_set kb (by omega)) (by omega),
    ((q.w.grown hg q.w.size (fun r e => Nat.le_trans hwb (q.li.lt e).1)).setCell (p := ⟨L, 0, none⟩) (by show w.heap.size ≤ L; omega) _).setCell (p := ⟨A, 0, none⟩) (by show w.heap.size ≤ A; omega) _,
    by have := q.z; have := hg.size; simp [World.setCell]; omega⟩
def IS (w : World) (base R L S A bs : Nat) (pre : List ByteArray) (Z : World) : Prop := ∃ v zs x, RS w base R L S A bs pre pre Z v zs x
def XS (w : World) (R L S : Nat) (c : Code) (pre : List ByteArray) (Z : World) : Prop :=
  c = .exit 0 ∧ ∃ v pre0 x z a b, pre = pre0 ++ [x] ∧ (∃ zs, AllRd pre0 zs) ∧ IRd x z a b ∧ a ≠ 0 ∧ Boxed Z L 25 v ∧ Box2 Z S 33 (.int .i64 (a : Nat)) (.int .i64 (1 + tot pre0 + b : Nat)) ∧ Box2 Z R 33 (.int .i64 0) (.int .i64 0) ∧ Below w.heap.size w Z
theorem bxO {X Y : World} {b : Nat} {t : TypeId} {v : Value} {row : Option Nat} (h : Boxed X b t v) (hg : X.grownBy Y row) (hr : ∀ r, row = some r → ∃ o : Obj, X.heap[r]? = some o ∧ o.isCells = false) : Boxed Y b t v :=
  boxed_own b t (fun _ : Unit => v) () X Y row h hg hr
theorem bx2O {X Y : World} {b : Nat} {t : TypeId} {v u : Value} {row : Option Nat} (h : Box2 X b t v u) (hg : X.grownBy Y row) (hr : ∀ r, row = some r → ∃ o : Obj, X.heap[r]? = some o ∧ o.isCells = false) : Box2 Y b t v u :=
  box2_own b t (fun _ : Unit => v) (fun _ => u) () X Y row h hg hr
theorem IS.own {w : World} {base R L S A bs C : Nat} (h : w.heap.size ≤ C) : OwnFrom C (IS w base R L S A bs) := fun _ _ _ _ ⟨v, zs, x, q⟩ hg hr =>
  have hr' := fun r e => (hr r e).2
  ⟨v, zs, x, bxO q.l hg hr', q.li.grow hg hr', q.rd, bx2O q.s hg hr', bxO q.a hg hr', bx2O q.r hg hr', bxO q.b hg hr', q.w.grown hg q.w.size (fun r e => Nat.le_trans h (hr r e).1), Nat.le_trans q.z hg.size⟩
theorem XS.own {w : World} {R L S C : Nat} (h : w.heap.size ≤ C) (c : Code) : OwnFrom C (XS w R L S c) := fun _ _ _ _ ⟨hc, v, p0, x, z, a, b, h1, h2, h3, h4, h5, h6, h7, h8⟩ hg hr =>
  have hr' := fun r e => (hr r e).2
  ⟨hc, v, p0, x, z, a, b, h1, h2, h3, h4, bxO h5 hg hr', bx2O h6 hg hr', bx2O h7 hg hr', h8.grown hg h8.size (fun r e => Nat.le_trans h (hr r e).1)⟩
theorem IS.setS {w : World} {base R L S A bs : Nat} (h : w.heap.size ≤ bs) (hb : bs < base) (hR : R ≠ bs) (hL : L ≠ bs) (hS : S ≠ bs) (hA : A ≠ bs) (pre : List ByteArray) (U V : World) : IS w base R L S A bs pre U → setS bs U V → IS w base R L S A bs pre V := by
  rintro ⟨v, zs, x, q⟩ ⟨y, rfl⟩
  exact ⟨v, zs, y, q.l.other hL _, q.li.setC (Boxed.noLimb q.b (by simp)) hb, q.rd, q.s.set_ne (Ne.symm hS) _, q.a.other hA _, q.r.set_ne (Ne.symm hR) _, q.b.set _, q.w.setCell (p := ⟨bs, 0, none⟩) h _, by have := q.z; simpa [World.setCell] using this⟩

set_option maxRecDepth 100000 in
set_option maxHeartbeats 8000000 in
theorem rnum_any (s : ByteArray) (w : World) (hs : s.size ≤ 65536) :
    Calls Tryd.prog 22 #[.string s] w fun e w' => ∃ v a b, e = .returned (.tuple #[v, .agg #[.int .i64 (a : Nat), .int .i64 (b : Nat)]]) ∧ RNum s v a b w' ∧ Below w.heap.size w w' := by
  refine callsC (n := 3) Tryd.func22 rfl ?_
  simp only [Tryd.ntmps22, List.size_toArray, List.length_cons, List.length_nil, Nat.reduceAdd, Nat.reduceSub, Array.replicate_succ, Array.replicate_zero, List.push_toArray, List.append_toArray, List.nil_append, List.cons_append]
  go_upto_region 1 with fail
  have hb := below_alloc w (.cells #[.int .i64 0, .int .i64 0] 33)
  have BR := hide (Box2.new w 33 (.int .i64 0) (.int .i64 0))
  have HB := hide hb
  clear hb
  generalize w.alloc (.cells #[.int .i64 0, .int .i64 0] 33) = w1 at *
  obtain ⟨R, hR⟩ : ∃ R, R = w.heap.size := ⟨_, rfl⟩
  have GR := hide hR
  rw [← hR] at BR
  rw [← hR]
  clear hR
  have GB := hide BR.out.lt
  refine wp_scope_straight ?_
  by_cases h0 : s.size = 0
  · have he : s.toList.isEmpty = true := by rw [str_empty, h0]; rfl
    have c0 := BR.out.cell0
    have c1 := BR.out.cell1
    have f0 := BR.out.free 0
    have f1 := BR.out.free 1
    go_wp2
    show LeavesInM _ _ _ _ _ _ _ _ _
    exact ⟨_, res_ts rfl _ _ R _ _ rfl (BR.out.put _ _), _, 0, 0, rfl, .inl ⟨h0, rfl, rfl, rfl⟩, (HB.out.setCell (p := ⟨R, 0, none⟩) (by rw [GR.out]; exact Nat.le_refl _) _).setCell (p := ⟨R, 1, none⟩) (by rw [GR.out]; exact Nat.le_refl _) _⟩
  · have he : s.toList.isEmpty = false := by rw [str_empty]; simp [h0]
    go_wp2_with fail
    have b1 := below_alloc w1 (.cells #[.slice none 0 0] 25)
    have b2 := below_alloc (w1.alloc (.cells #[.slice none 0 0] 25)) (.cells #[.int .i64 0, .int .i64 0] 33)
    have b3 := below_alloc ((w1.alloc (.cells #[.slice none 0 0] 25)).alloc (.cells #[.int .i64 0, .int .i64 0] 33)) (.cells #[.int .i64 1] 3)
    have BL := hide (boxed_step (boxed_step (Boxed.new w1 25 (.slice none 0 0)) b2) b3)
    have BS := hide ((Box2.new (w1.alloc (.cells #[.slice none 0 0] 25)) 33 (.int .i64 0) (.int .i64 0)).step b3)
    have BA := hide (Boxed.new ((w1.alloc (.cells #[.slice none 0 0] 25)).alloc (.cells #[.int .i64 0, .int .i64 0] 33)) 3 (.int .i64 1))
    replace BR := hide (((BR.out.step b1).step b2).step b3)
    have G1 : Hid (R < w1.heap.size) := hide GB.out
    replace HB := hide (HB.out.trans ((b1.trans ((b2.trans (b3.mono b2.size)).mono b1.size)).mono HB.out.size))
    simp only [World.size_alloc] at BS BA
    clear b1 b2 b3
    generalize ((w1.alloc (.cells #[.slice none 0 0] 25)).alloc (.cells #[.int .i64 0, .int .i64 0] 33)).alloc (.cells #[.int .i64 1] 3) = w4 at *
    obtain ⟨L, hL⟩ : ∃ L, L = w1.heap.size := ⟨_, rfl⟩
    obtain ⟨S, hS⟩ : ∃ S, S = L + 1 := ⟨_, rfl⟩
    obtain ⟨A, hA⟩ : ∃ A, A = S + 1 := ⟨_, rfl⟩
    rw [← hL, ← hS] at BS BA
    rw [← hA] at BA
    rw [← hL] at BL G1
    rw [← hL, ← hS, ← hA]
    have NS := hide hS
    have NA := hide hA
    clear hL hS hA
    refine wp_label ?_
    go_wp2_with fail
    refine (seq_any s ⟨#[32]⟩ _).mono ?_
    rintro e w5 ⟨bs, rfl, hbs, x1, x2, x3, hb⟩
    have X1 := hide x1
    have X2 := hide x2
    have X3 := hide x3
    have NB : Hid (A < bs) := hide (Nat.lt_of_lt_of_le BA.out.lt hbs)
    replace BR := hide (BR.out.step hb)
    replace BL := hide (boxed_step BL.out hb)
    replace BS := hide (BS.out.step hb)
    replace BA := hide (boxed_step BA.out hb)
    replace HB := hide (HB.out.trans (hb.mono HB.out.size))
    clear x1 x2 x3 hbs hb
    go_wp2_with fail
    refine (wpIn_wide (n := 3)).1 ?_
    have GW : Hid (w.heap.size ≤ R) := hide (Nat.le_of_eq GR.out.symm)
    have LB : Hid (bs + 3 ≤ w5.heap.size) := hide X3.out.lt
    have NN : Hid (R < L ∧ L < S ∧ S < A ∧ A < bs ∧ bs + 3 ≤ w5.heap.size) := hide ⟨G1.out, by have := NS.out; omega, by have := NA.out; omega, NB.out, LB.out⟩
    refine rangeC (by omega) (gf := 77) (lb := #[.pointer (some ⟨bs + 1, 0, none⟩), .pointer (some ⟨bs, 0, none⟩), .pointer (some ⟨bs + 2, 0, none⟩)]) rfl (enters_of Tryd.func77 (by kernel_rfl) rfl)
      (spl_yields 2 bs 32 s (by omega) w5 X1.out X2.out X3.out) rfl KC.trans (fun W o hW => ⟨fun i h1 h2 => World.putObj_heap_other (by have := LB.out; omega), by simp [World.putObj]⟩) (Below.refl _ _) (fun _ => rfl)
      (IS w w5.heap.size R L S A bs) (XS w R L S) (IS.own HB.out.size) (XS.own HB.out.size)
      (IS.setS (by have := NN.out; have := GW.out; omega) (by have := NN.out; omega) (by have := NN.out; omega) (by have := NN.out; omega) (by have := NN.out; omega) (by have := NN.out; omega))
      (fun U V ⟨y, e⟩ k hk => by subst e; exact Below.heap_setCell _ _ _ _ (by show k ≠ bs; have := NN.out; omega))
      ⟨_, [], s, BL.out, ListI.nil _ _, AllRd.nil, BS.out, BA.out, BR.out, X1.out, HB.out, Nat.le_refl _⟩
      (fun x a' _ => a' = { tmps := #[.string s, undef, .slice none 0 0, .pointer (some ⟨R, 0, none⟩), .pointer (some ⟨L, 0, none⟩), .pointer (some ⟨S, 0, none⟩), .pointer (some ⟨A, 0, none⟩), .string x, undef, undef, .string s, .bool false, undef, .string s, .func (.func 77) #[] #[.pointer (some ⟨bs + 1, 0, none⟩), .pointer (some ⟨bs, 0, none⟩), .pointer (some ⟨bs + 2, 0, none⟩)], .string x, undef, undef, undef, undef, undef, undef, undef, undef, undef, undef, undef, undef, undef, undef, undef, undef, undef, undef, undef, undef, undef, undef, undef, undef, undef, undef, undef, undef, undef, undef, undef, undef, undef], defers := [] }) (fun x a' => ownFrom_pure _ _) ?asg ?bdy ?dn ?st
    case asg =>
      intro l pre x W K hI hK
      unfold strE
      simp only [List.zip_toArray, List.zip_cons_cons, List.zip_nil_right, List.foldl_toArray', List.size_toArray, List.length_cons, List.length_nil, List.foldl_cons, List.foldl_nil, List.setIfInBounds_toArray, List.set_cons_succ, List.set_cons_zero]
      gi_wp2
      exact hK _ _ (KeepsFrom.refl _ _) ⟨fun _ _ _ => rfl, Nat.le_refl _⟩ hI rfl
    case bdy =>
      rintro l pre x a' Z ⟨v, zs, y, q⟩ rfl hlen
      have Q := hide q
      have HX : Hid (x.size ≤ 65536) := hide (Nat.le_trans (splB_size (hlen.subset (by simp))) hs)
      have HP := hide hlen
      clear q hlen
      have TB : Hid (1 + tot pre + x.size + 1 ≤ 70000) := hide (by have h1 := tot_pre HP.out; rw [tot_app, tot_splB] at h1; omega)
      gi_wp2_with fail
      refine ⟨trivial, (CallsIn.inRound l (callsIn_wide.2 (iread_any x Z (by have := HX.out; omega)))).mono ?_⟩
      rintro e Z2 ⟨u, z, ea, eb, rfl, hi, hrd, hb⟩
      obtain ⟨sb, sm, sn, sc, rfl, hi⟩ := hi.cells
      have RD := hide hrd
      have RK := hide (Rn.below (B := w5.heap.size) (lo := bs) (hi := bs + 3) hb (Nat.le_trans NN.out.2.2.2.2 Q.out.z))
      replace Q := hide (Q.out.below hb)
      have IN := hide hi
      clear hi hrd hb
      gi_upto_region 9 with fail
      have b1 := below_alloc Z2 (.cells #[.bool sb, .slice sm sn sc] 51)
      have b2 := below_alloc (Z2.alloc (.cells #[.bool sb, .slice sm sn sc] 51)) (.cells #[.int .i64 (ea : Nat), .int .i64 (eb : Nat)] 33)
      have XB := hide ((Box.new Z2 (.bool sb) (.slice sm sn sc)).step b2)
      have WB := hide (Box2.new (Z2.alloc (.cells #[.bool sb, .slice sm sn sc] 51)) 33 (.int .i64 (ea : Nat)) (.int .i64 (eb : Nat)))
      simp only [World.size_alloc] at WB
      have hb := b1.trans (b2.mono b1.size)
      have XGE : Hid (w5.heap.size ≤ Z2.heap.size) := hide Q.out.z
      replace RK := hide (RK.out.trans (Rn.below hb (Nat.le_trans NN.out.2.2.2.2 Q.out.z)))
      replace Q := hide (Q.out.below hb)
      replace IN := hide (IN.out.below hb)
      clear b1 b2 hb
      generalize (Z2.alloc (.cells #[.bool sb, .slice sm sn sc] 51)).alloc (.cells #[.int .i64 (ea : Nat), .int .i64 (eb : Nat)] 33) = Z3 at *
      obtain ⟨gx, hgx⟩ : ∃ g, g = Z2.heap.size := ⟨_, rfl⟩
      have GX : Hid (w5.heap.size ≤ gx) := hide (by have := XGE.out; omega)
      rw [← hgx] at XB WB
      rw [← hgx]
      clear hgx XGE
      have e0 := WB.out.cell0
      have e1 := WB.out.cell1
      have ca := Q.out.a.cell
      have s0 := Q.out.s.cell0
      have s1 := Q.out.s.cell1
      have fs := Q.out.s.free
      have fs0 := fs 0
      have fs1 := fs 1
      clear fs
      by_cases hea : ea = 0
      · subst hea
        have hz0 : eb = 0 := RD.out.told.2.2
        subst hz0
        obtain ⟨va, vc, hv, _⟩ := Q.out.li.ints
        subst hv
        have ZL : Hid (zs.length = pre.length) := hide Q.out.rd.1
        by_cases h4 : zs.length = 4096
        · have cl := Q.out.l.cell
          have hq : ((zs.length : Int) == 4096) = true := by simp; omega
          have H4 := hide h4
          clear h4
          gi_upto_region 13 with fail
          have SPK := Q.out.spares 3 (1 + tot pre)
          have SPN := sp_new (x := x) (by rw [← ZL.out]; exact H4.out)
          clear H4
          replace Q := hide (Q.out.spot (pre ++ [x]) (by have := NN.out; have := GW.out; omega) (by have := NN.out; omega) (by have := NN.out; omega) (by have := NN.out; omega) (by have := NN.out; omega) (by have := NN.out; omega))
          rw [SPN.1, SPN.2] at Q
          clear e0 e1 ca s0 s1 fs0 fs1 cl hq SPN
          have K1 := hide (Rn.set (B := w5.heap.size) (lo := bs) (hi := bs + 3) (b := S) (o := 0) Z3 (.int .i64 ((3 : Nat) : Int)) (.inl (by have := NN.out; omega)))
          have K2 := hide (Rn.set (B := w5.heap.size) (lo := bs) (hi := bs + 3) (b := S) (o := 1) (Z3.setCell ⟨S, 0, none⟩ (.int .i64 ((3 : Nat) : Int))) (.int .i64 ((1 + tot pre : Nat) : Int)) (.inl (by have := NN.out; omega)))
          replace RK := hide ((RK.out.trans K1.out).trans K2.out)
          replace IN := hide (IN.out.keep SPK)
          replace XB := hide (bxi_set (o := 1) (u := .int .i64 ((1 + tot pre : Nat) : Int)) (bxi_set (o := 0) (u := .int .i64 ((3 : Nat) : Int)) XB.out (c := S) (by have := NN.out; have := GX.out; omega)) (c := S) (by have := NN.out; have := GX.out; omega))
          clear K1 K2 WB SPK
          have hcs : (1 + (tot pre : Int)) = ((1 + tot pre : Nat) : Int) := by omega
          obtain ⟨Z4, hZ4⟩ : ∃ Z4, Z4 = (Z3.setCell ⟨S, 0, none⟩ (.int .i64 3)).setCell ⟨S, 1, none⟩ (.int .i64 (1 + (tot pre : Int))) := ⟨_, rfl⟩
          have hZ : (Z3.setCell ⟨S, 0, none⟩ (.int .i64 ((3 : Nat) : Int))).setCell ⟨S, 1, none⟩ (.int .i64 ((1 + tot pre : Nat) : Int)) = Z4 := by rw [hZ4, hcs]; rfl
          rw [hZ] at Q RK IN XB
          rw [← hZ4]
          clear hZ hZ4 hcs
          obtain ⟨i0, hi0, hz0, hz1, hz2⟩ := info_parts Tryd.infoIntB
          have al := below_alloc Z4 (.cells #[.bool sb, .slice sm sn sc] 51)
          have TMP := hide (Box.new Z4 (.bool sb) (.slice sm sn sc))
          have QA := hide (Q.out.below al)
          have IA := hide (IN.out.below al)
          have RA := hide (RK.out.trans (Rn.below (B := w5.heap.size) (lo := bs) (hi := bs + 3) al (Nat.le_trans NN.out.2.2.2.2 Q.out.z)))
          obtain ⟨xs, ho, hx⟩ := QA.out.li
          have OO := hide ho
          have OX := hide hx
          have LL : Hid (zs.length ≤ 70000) := hide (by have h1 := HP.out.length_le; have h2 := spl_few 32 s; rw [List.length_append, List.length_singleton] at h1; have := ZL.out; omega)
          have cl := Q.out.l.cell
          have d0 := XB.out.cell0
          have d1 := XB.out.cell1
          have tb := TB.out
          clear al ho hx
          gi_wp2_with (gi_at_builtin; refine wpListIn_app2 _ rfl _ _ 25 rfl w5.heap.size 51 i0 Tryd.underlying25 hi0 hz0 hz1 hz2 _ _ _ rfl OO.out Z4.heap.size 1 sb sm sn sc rfl TMP.out.cell0 TMP.out.cell1 (by have := LL.out; omega) QA.out.z ?_; intro v' Z5 hown hgrow hbl; have OW := hide hown; have GRW := hide hgrow; have cl5 := (show Boxed Z5 L _ _ from QA.out.kept hgrow (by have := NN.out; omega) QA.out.l).cell; have fl5 := (show Boxed Z5 L _ _ from QA.out.kept hgrow (by have := NN.out; omega) QA.out.l).frozen; have ca5 := (show Boxed Z5 A _ _ from QA.out.kept hgrow (by have := NN.out; omega) QA.out.a).cell; have fa5 := (show Boxed Z5 A _ _ from QA.out.kept hgrow (by have := NN.out; omega) QA.out.a).frozen; obtain ⟨va', vc', hv', _⟩ := (ListI.app OO.out OX.out IA.out hown hgrow).ints; rw [List.length_append, List.length_singleton] at hv'; subst hv'; have nLA : L ≠ A := (by have := NN.out; omega); clear hown hgrow hbl cl d0 d1)
          have hcast : (1 + (tot pre : Int) + ((x.size : Int) + 1)) = ((1 + tot pre + (x.size + 1) : Nat) : Int) := by omega
          rw [hcast]
          have RN := RA.out.trans ((Rn.grown (B := w5.heap.size) GRW.out (fun r e => ⟨.inr (by have := (QA.out.li.lt e).1; have := NN.out; omega), QA.out.li.cells e⟩) (Nat.le_trans NN.out.2.2.2.2 QA.out.z)).trans ((Rn.set (b := L) (o := 0) _ (.slice va' (zs.length + 1) vc') (.inl (by have := NN.out; omega))).trans (Rn.set (b := A) (o := 0) _ (.int .i64 ((1 + tot pre + (x.size + 1) : Nat) : Int)) (.inl (by have := NN.out; omega)))))
          exact ⟨RN.kf, ⟨RN.kc, RN.kf.size⟩, _, zs ++ [z], y, QA.out.next rfl RD.out (ListI.app OO.out OX.out IA.out OW.out GRW.out) (by simp) GRW.out NN.out GW.out HB.out.size⟩
        · have cl := Q.out.l.cell
          have hq : ((zs.length : Int) == 4096) = false := by simp; omega
          gi_upto_region 13 with fail
          clear e0 e1 ca s0 s1 fs0 fs1 cl hq
          have SPN := sp_same (x := x) (by rw [← ZL.out]; exact h4)
          replace Q : Hid (RS w w5.heap.size R L S A bs pre (pre ++ [x]) Z3 _ zs y) := hide ⟨Q.out.l, Q.out.li, Q.out.rd, by rw [SPN.1, SPN.2]; exact Q.out.s, Q.out.a, Q.out.r, Q.out.b, Q.out.w, Q.out.z⟩
          clear SPN
          obtain ⟨i0, hi0, hz0, hz1, hz2⟩ := info_parts Tryd.infoIntB
          have al := below_alloc Z3 (.cells #[.bool sb, .slice sm sn sc] 51)
          have TMP := hide (Box.new Z3 (.bool sb) (.slice sm sn sc))
          have QA := hide (Q.out.below al)
          have IA := hide (IN.out.below al)
          have RA := hide (RK.out.trans (Rn.below (B := w5.heap.size) (lo := bs) (hi := bs + 3) al (Nat.le_trans NN.out.2.2.2.2 Q.out.z)))
          obtain ⟨xs, ho, hx⟩ := QA.out.li
          have OO := hide ho
          have OX := hide hx
          have LL : Hid (zs.length ≤ 70000) := hide (by have h1 := HP.out.length_le; have h2 := spl_few 32 s; rw [List.length_append, List.length_singleton] at h1; have := ZL.out; omega)
          have cl := Q.out.l.cell
          have d0 := XB.out.cell0
          have d1 := XB.out.cell1
          have tb := TB.out
          clear al ho hx
          gi_wp2_with (gi_at_builtin; refine wpListIn_app2 _ rfl _ _ 25 rfl w5.heap.size 51 i0 Tryd.underlying25 hi0 hz0 hz1 hz2 _ _ _ rfl OO.out Z3.heap.size 1 sb sm sn sc rfl TMP.out.cell0 TMP.out.cell1 (by have := LL.out; omega) QA.out.z ?_; intro v' Z5 hown hgrow hbl; have OW := hide hown; have GRW := hide hgrow; have cl5 := (show Boxed Z5 L _ _ from QA.out.kept hgrow (by have := NN.out; omega) QA.out.l).cell; have fl5 := (show Boxed Z5 L _ _ from QA.out.kept hgrow (by have := NN.out; omega) QA.out.l).frozen; have ca5 := (show Boxed Z5 A _ _ from QA.out.kept hgrow (by have := NN.out; omega) QA.out.a).cell; have fa5 := (show Boxed Z5 A _ _ from QA.out.kept hgrow (by have := NN.out; omega) QA.out.a).frozen; obtain ⟨va', vc', hv', _⟩ := (ListI.app OO.out OX.out IA.out hown hgrow).ints; rw [List.length_append, List.length_singleton] at hv'; subst hv'; have nLA : L ≠ A := (by have := NN.out; omega); clear hown hgrow hbl cl d0 d1)
          have hcast : (1 + (tot pre : Int) + ((x.size : Int) + 1)) = ((1 + tot pre + (x.size + 1) : Nat) : Int) := by omega
          rw [hcast]
          have RN := RA.out.trans ((Rn.grown (B := w5.heap.size) GRW.out (fun r e => ⟨.inr (by have := (QA.out.li.lt e).1; have := NN.out; omega), QA.out.li.cells e⟩) (Nat.le_trans NN.out.2.2.2.2 QA.out.z)).trans ((Rn.set (b := L) (o := 0) _ (.slice va' (zs.length + 1) vc') (.inl (by have := NN.out; omega))).trans (Rn.set (b := A) (o := 0) _ (.int .i64 ((1 + tot pre + (x.size + 1) : Nat) : Int)) (.inl (by have := NN.out; omega)))))
          exact ⟨RN.kf, ⟨RN.kc, RN.kf.size⟩, _, zs ++ [z], y, QA.out.next rfl RD.out (ListI.app OO.out OX.out IA.out OW.out GRW.out) (by simp) GRW.out NN.out GW.out HB.out.size⟩
      · have hne : ((ea : Int) != 0) = true := by simp; omega
        have EB : eb ≤ 200000 := by have := RD.out.bsmall; have := HX.out; omega
        have tb := TB.out
        gi_wp2
        have hcast : (1 + (tot pre : Int) + (eb : Int)) = ((1 + tot pre + eb : Nat) : Int) := by omega
        rw [hcast]
        exact ⟨RK.out.kf.trans (((KeepsOthers.setCell _ _ _).trans (KeepsOthers.setCell _ _ _)).from _), rfl, v, pre, x, z, ea, eb, rfl, ⟨zs, Q.out.rd⟩, RD.out, hea, bx_set (bx_set Q.out.l (by have := NN.out; omega)) (by have := NN.out; omega), Q.out.s.put _ _, bx2_set (bx2_set Q.out.r (by have := NN.out; omega)) (by have := NN.out; omega),
          (Q.out.w.setCell (p := ⟨S, 0, none⟩) (by show w.heap.size ≤ S; have := NN.out; have := GW.out; omega) _).setCell (p := ⟨S, 1, none⟩) (by show w.heap.size ≤ S; have := NN.out; have := GW.out; omega) _⟩
    case dn =>
      rintro D xs Z hD rfl ⟨v, zs, y, q⟩ hK
      have Q := hide q
      have HK := hide hK
      have HD := hide hD
      obtain ⟨ee, hee⟩ : ∃ ee, ee = spE (splB 32 s) := ⟨_, rfl⟩
      obtain ⟨aa, haa⟩ : ∃ aa, aa = spA (splB 32 s) := ⟨_, rfl⟩
      have hl := q.l
      have hs2 := q.s
      have hr := q.r
      rw [← hee, ← haa] at hs2
      have EE := hide (And.intro hee haa)
      have NR := hide (Box2.noLimb hr (by simp) (by simp))
      have NR2 := hide (Box2.noLimb (hr.set0 (.int .i64 (ee : Nat))) (by simp) (by simp))
      have HR := hide hr
      clear q hK hD hee haa
      simp only [Exit.inBlock, Exit.then]
      have cl := hl.cell
      have s0 := hs2.cell0
      have s1 := hs2.cell1
      have r0 := hr.cell0
      have r1 := hr.cell1
      have fr := hr.free
      have fr0 := fr 0
      have fr1 := fr 1
      clear fr
      go_wp2
      go_region
      go_wp2
      refine leavesC (B := w5.heap.size) (I := fun (_ : Unit) V => Box2 V R 33 (.int .i64 (ee : Nat)) (.int .i64 (aa : Nat)) ∧ ListI V w5.heap.size v zs ∧ Below w.heap.size w V)
        (fun _ X Y row q hg hr => ⟨bx2O q.1 hg (fun r e => (hr r e).2), q.2.1.grow hg (fun r e => (hr r e).2), q.2.2.grown hg q.2.2.size (fun r e => Nat.le_trans HB.out.size (hr r e).1)⟩) ()
        (fun V q => ⟨_, res_ts rfl _ _ R _ _ rfl q.1, v, ee, aa, rfl, .inr (.inl ⟨h0, zs, Q.out.rd, q.2.1.ints, EE.out.1, EE.out.2⟩), q.2.2⟩) [D] _ (MarksC.one HD.out ?_)
        ⟨HR.out.put _ _, (Q.out.li.setC NR.out (by have := NN.out; omega)).setC NR2.out (by have := NN.out; omega), ((Q.out.w.setCell (p := ⟨R, 0, none⟩) GW.out _).setCell (p := ⟨R, 1, none⟩) GW.out _).drew⟩
      exact (Below.heap_setCell _ _ _ _ (by show D ≠ R; have := NN.out; have := HD.out; omega)).trans ((Below.heap_setCell _ _ _ _ (by show D ≠ R; have := NN.out; have := HD.out; omega)).trans HK.out)
    case st =>
      rintro D c pre Z hD hp ⟨rfl, v, pre0, x, z, ea, eb, rfl, hrd, hx, ha, hl, hs2, hr, hw⟩ hK
      have HK := hide hK
      have HD := hide hD
      have HP := hide hp
      have HX := hide hx
      have HW := hide hw
      have HRD := hide hrd
      obtain ⟨aa, haa⟩ : ∃ aa, aa = 1 + tot pre0 + eb := ⟨_, rfl⟩
      rw [← haa] at hs2
      have AA := hide haa
      have HR := hide hr
      clear hK hD hp hx hw hrd haa
      refine wpIn_exit ?_
      simp only [Exit.inBlock, Exit.then]
      rw [if_pos trivial]
      have cl := hl.cell
      have s0 := hs2.cell0
      have s1 := hs2.cell1
      have r0 := hr.cell0
      have r1 := hr.cell1
      have fr := hr.free
      have fr0 := fr 0
      have fr1 := fr 1
      clear fr
      go_wp2
      go_region
      go_wp2
      refine leavesC (B := w5.heap.size) (I := fun (_ : Unit) V => Box2 V R 33 (.int .i64 (ea : Nat)) (.int .i64 (aa : Nat)) ∧ Below w.heap.size w V)
        (fun _ X Y row q hg hr => ⟨bx2O q.1 hg (fun r e => (hr r e).2), q.2.grown hg q.2.size (fun r e => Nat.le_trans HB.out.size (hr r e).1)⟩) ()
        (fun V q => ⟨_, res_ts rfl _ _ R _ _ rfl q.1, v, ea, aa, rfl, .inr (.inr ⟨h0, pre0, x, z, eb, HP.out, HRD.out, HX.out, ha, AA.out⟩), q.2⟩) [D] _ (MarksC.one HD.out ?_)
        ⟨HR.out.put _ _, ((HW.out.setCell (p := ⟨R, 0, none⟩) GW.out _).setCell (p := ⟨R, 1, none⟩) GW.out _).drew⟩
      exact (Below.heap_setCell _ _ _ _ (by show D ≠ R; have := NN.out; have := HD.out; omega)).trans ((Below.heap_setCell _ _ _ _ (by show D ≠ R; have := NN.out; have := HD.out; omega)).trans HK.out)
end Go.Proofs.YtdafdfgkfkanjaaDoor

namespace Go.Proofs.YtdafdfgkfkanjaaDoor
open Go.RowKit Go.Shelf

/-- what is told of the numbers between the brackets -/
def RNumP (s : ByteArray) (a b : Nat) : Prop :=
  (s.size = 0 ∧ a = 0 ∧ b = 0) ∨
  (s.size ≠ 0 ∧ (∃ zs, AllRd (splB 32 s) zs) ∧ a = spE (splB 32 s) ∧ b = spA (splB 32 s)) ∨
  (s.size ≠ 0 ∧ ∃ pre x z b', pre ++ [x] <+: splB 32 s ∧ (∃ zs, AllRd pre zs) ∧ IRd x z a b' ∧ a ≠ 0 ∧ b = 1 + tot pre + b')
theorem RNum.pure {s : ByteArray} {v : Value} {a b : Nat} {w : World} (h : RNum s v a b w) : RNumP s a b := by
  rcases h with ⟨h1, _, h2⟩ | ⟨h1, zs, h2, _, h3⟩ | h
  · exact .inl ⟨h1, h2⟩
  · exact .inr (.inl ⟨h1, ⟨zs, h2⟩, h3⟩)
  · exact .inr (.inr h)
/-- these are the numbers between the brackets -/
def RowZ (s : ByteArray) (zs : List Int) : Prop := (s.size = 0 ∧ zs = []) ∨ (s.size ≠ 0 ∧ AllRd (splB 32 s) zs)
theorem ints_nil (w : World) : Ints w (.slice none 0 0) [] := ⟨none, 0, rfl, Nat.le_refl _, by simp [maxLen], fun h => absurd rfl h⟩
theorem RNum.good {s : ByteArray} {v : Value} {b : Nat} {w : World} (h : RNum s v 0 b w) : ∃ zs, RowZ s zs ∧ Ints w v zs := by
  rcases h with ⟨h1, rfl, h2⟩ | ⟨h1, zs, h2, h3, _⟩ | ⟨_, _, _, _, _, _, _, _, h, _⟩
  · exact ⟨[], .inl ⟨h1, rfl⟩, ints_nil w⟩
  · exact ⟨zs, .inr ⟨h1, h2⟩, h3⟩
  · exact absurd rfl h
theorem Ints.set2 {w : World} {v : Value} {zs : List Int} {g o : Nat} {t : TypeId} {x y : Int} {u : Value} (h : Ints w v zs) (hg : Box2 w g t (.int .i64 x) (.int .i64 y)) : Ints (w.setCell ⟨g, o, none⟩ u) v zs := by
  have hgr : w.grownBy (w.setCell ⟨g, o, none⟩ u) (some g) := ⟨rfl, rfl, rfl, by simp [World.setCell], fun k _ h => Below.heap_setCell _ _ _ _ (by simpa using h)⟩
  have hsp := spares_row hgr (Box2.noLimb hg (by simp) (by simp))
  obtain ⟨a, cap, rfl, h1, h2, h3⟩ := h
  refine ⟨a, cap, rfl, h1, h2, fun hne => ?_⟩
  obtain ⟨b, off, rfl, hc⟩ := h3 hne
  refine ⟨b, off, rfl, fun i hi => ?_⟩
  obtain ⟨s, m, c, n, k1, k2, k3⟩ := hc i hi
  have hb : b ≠ g := by
    rintro rfl
    unfold World.cell? at k1
    rw [show w.heap[b]? = _ from hg] at k1
    revert k1
    generalize off + i * 2 = j
    match j with
    | 0 => simp
    | 1 => simp
    | j + 2 => simp
  have e : ∀ j, (w.setCell ⟨g, o, none⟩ u).cell? ⟨b, j, none⟩ = w.cell? ⟨b, j, none⟩ := fun j => World.cell?_of_block (Below.heap_setCell _ _ _ _ hb)
  exact ⟨s, m, c, n, (e _).trans k1, (e _).trans k2, k3.keep hsp⟩
/-- what Read answers of the parts of a text -/
def RdC (s : ByteArray) (t : ByteArray × ByteArray × Bool) (a0 b0 : Nat) (v : Value) (a b : Nat) (w : World) : Prop :=
  (a0 = 6 ∧ v = .slice none 0 0 ∧ a = 6 ∧ b = b0) ∨
  (a0 ≠ 6 ∧ t.2.2 = false ∧ v = .slice none 0 0 ∧ a = 6 ∧ b = s.size) ∨
  (a0 ≠ 6 ∧ t.2.2 = true ∧ t.2.1.size ≠ 0 ∧ v = .slice none 0 0 ∧ a = 6 ∧ b = s.size - t.2.1.size) ∨
  (a0 ≠ 6 ∧ a0 ≠ 0 ∧ t.2.2 = true ∧ t.2.1.size = 0 ∧ v = .slice none 0 0 ∧ a = a0 ∧ b = b0) ∨
  (a0 = 0 ∧ t.2.2 = true ∧ t.2.1.size = 0 ∧ a = 0 ∧ b = 0 ∧ ∃ zs, RowZ t.1 zs ∧ Ints w v zs)
def RowRd (s : ByteArray) (v : Value) (a b : Nat) (w : World) : Prop :=
  (65536 < s.size ∧ v = .slice none 0 0 ∧ a = 3 ∧ b = 65536) ∨
  (s.size ≤ 65536 ∧ hp s 91 = false ∧ v = .slice none 0 0 ∧ a = 6 ∧ b = 0) ∨
  (s.size ≤ 65536 ∧ hp s 91 = true ∧ ∃ a0 b0, RNumP (cutB 93 (rest1 s)).1 a0 b0 ∧ RdC s (cutB 93 (rest1 s)) a0 b0 v a b w)
theorem ret_ts {fn : Func} {R : Ending → World → Prop} {a : Act} {w : World} {p q : Tmp} (h : fn.results = #[.tmp p, .cell q 33]) (g : Nat) (x y : Value) (hq : a.tmps.getD q undef = .pointer (some ⟨g, 0, none⟩)) (hg : Box2 w g 33 x y) (hd : a.defers = [])
    (hR : R (.returned (.tuple #[a.tmps.getD p undef, .agg #[x, y]])) w) : bodyPost Tryd.prog fn R .ret a w := bodyPost_ret (res_ts h _ _ g x y hq hg) hd hR
theorem cutB_size (c : UInt8) (s : ByteArray) : (cutB c s).1.size ≤ s.size ∧ (cutB c s).2.1.size ≤ s.size := by
  unfold cutB
  split
  · exact ⟨Nat.le_refl _, Nat.zero_le _⟩
  · exact ⟨by rw [ByteArray.size_extract]; omega, by rw [ByteArray.size_extract]; omega⟩
theorem RNum.small {s : ByteArray} {v : Value} {a b : Nat} {w : World} (h : RNum s v a b w) (hs : s.size ≤ 65536) : b ≤ 300000 := by
  rcases h with ⟨_, _, _, rfl⟩ | ⟨_, zs, _, _, _, rfl⟩ | ⟨_, pre, x, z, b', hp, _, hx, _, rfl⟩
  · omega
  · unfold spA
    split
    · omega
    · have := tot_pre (List.take_prefix 4096 (splB 32 s)); rw [tot_splB] at this; omega
  · have h1 := tot_pre hp
    rw [tot_app, tot_splB] at h1
    have h2 := hx.bsmall
    omega
set_option maxRecDepth 100000 in
set_option maxHeartbeats 3000000 in
theorem rread_any (s : ByteArray) (w : World) (hs : s.size ≤ 4000000000) :
    Calls Tryd.prog 10 #[.string s] w fun e w' => ∃ v a b, e = .returned (.tuple #[v, .agg #[.int .i64 (a : Nat), .int .i64 (b : Nat)]]) ∧ RowRd s v a b w' ∧ Below w.heap.size w w' := by
  have BR := hide (Box2.new w 33 (.int .i64 0) (.int .i64 0))
  have HB := hide (below_alloc w (.cells #[.int .i64 0, .int .i64 0] 33))
  go_enter Tryd.func10, Tryd.ntmps10
  go_upto_region 1 with fail
  generalize w.alloc (.cells #[.int .i64 0, .int .i64 0] 33) = w1 at *
  obtain ⟨R, hR⟩ : ∃ R, R = w.heap.size := ⟨_, rfl⟩
  have GR : Hid (w.heap.size ≤ R) := hide (Nat.le_of_eq hR.symm)
  rw [← hR] at BR
  rw [← hR]
  clear hR
  have c0 := BR.out.cell0
  have c1 := BR.out.cell1
  have fr := BR.out.free
  have f0 := fr 0
  have f1 := fr 1
  clear fr
  by_cases hb : 65536 < s.size
  · go_wp2
    refine ret_ts rfl R _ _ rfl (BR.out.put _ _) rfl ?_
    refine ⟨.slice none 0 0, 3, 65536, rfl, .inl ⟨hb, rfl, rfl, rfl⟩, (HB.out.setCell (p := ⟨R, 0, none⟩) GR.out _).setCell (p := ⟨R, 1, none⟩) GR.out _⟩
  · have hsz : s.size ≤ 65536 := by omega
    go_wp2_with fail
    refine (hasPrefix_any s 91 w1 (by omega)).mono ?_
    rintro e w' ⟨rfl, rfl⟩
    cases hh : hp s 91 with
    | false =>
      go_wp2
      refine ret_ts rfl R _ _ rfl (BR.out.put _ _) rfl ?_
      refine ⟨.slice none 0 0, 6, 0, rfl, .inr (.inl ⟨hsz, hh, rfl, rfl, rfl⟩), (HB.out.setCell (p := ⟨R, 0, none⟩) GR.out _).setCell (p := ⟨R, 1, none⟩) GR.out _⟩
    | true =>
      have hpos : 0 < s.size := (hp_yes hh).1
      have HH := hide hh
      clear hh c0 c1 f0 f1 hb
      go_wp2_with fail
      refine (cut_any (rest1 s) 93 _ (by rw [rest1_size]; omega)).mono ?_
      have HC := hide (cutB_size 93 (rest1 s))
      obtain ⟨t, ht⟩ : ∃ t, t = cutB 93 (rest1 s) := ⟨_, rfl⟩
      rw [← ht] at HC ⊢
      have HT := hide ht
      clear ht
      obtain ⟨ti, tb, tc⟩ := t
      dsimp only at HC ⊢
      rintro e w2 ⟨rfl, hb2⟩
      replace BR := hide (BR.out.step hb2)
      replace HB := hide (HB.out.trans (hb2.mono HB.out.size))
      clear hb2
      have SI : Hid (ti.size ≤ 65536) := hide (by have := HC.out.1; rw [rest1_size] at this; omega)
      have SB : Hid (tb.size ≤ s.size) := hide (by have := HC.out.2; rw [rest1_size] at this; omega)
      clear HC
      go_wp2_with fail
      refine (rnum_any ti _ SI.out).mono ?_
      rintro e w3 ⟨v0, a0, b0, rfl, hn, hb3⟩
      replace BR := hide (BR.out.step hb3)
      replace HB := hide (HB.out.trans (hb3.mono HB.out.size))
      have RN := hide hn
      have BS : Hid (b0 ≤ 300000) := hide (hn.small SI.out)
      clear hn hb3
      go_upto_region 7 with fail
      have b1 := below_alloc w3 (.cells #[.int .i64 (a0 : Nat), .int .i64 (b0 : Nat)] 33)
      have SX := hide (Box2.new w3 33 (.int .i64 (a0 : Nat)) (.int .i64 (b0 : Nat)))
      have RX : Hid (R < w3.heap.size) := hide BR.out.lt
      replace BR := hide (BR.out.step b1)
      replace HB := hide (HB.out.trans (b1.mono HB.out.size))
      have RP := hide RN.out.pure
      replace RN : Hid (a0 = 0 → ∃ zs, RowZ ti zs ∧ Ints (w3.alloc (.cells #[.int .i64 (a0 : Nat), .int .i64 (b0 : Nat)] 33)) v0 zs) := hide (fun e => by subst e; obtain ⟨zs, h1, h2⟩ := RN.out.good; exact ⟨zs, h1, h2.below b1⟩)
      clear b1
      generalize w3.alloc (.cells #[.int .i64 (a0 : Nat), .int .i64 (b0 : Nat)] 33) = w4 at *
      obtain ⟨X, hX⟩ : ∃ X, X = w3.heap.size := ⟨_, rfl⟩
      have RX2 : R < X := by have := RX.out; omega
      have GX : Hid (w.heap.size ≤ X) := hide (by have := GR.out; omega)
      rw [← hX] at SX
      rw [← hX]
      clear hX RX
      have c0 := BR.out.cell0
      have c1 := BR.out.cell1
      have fr := BR.out.free
      have f0 := fr 0
      have f1 := fr 1
      have d0 := SX.out.cell0
      have d1 := SX.out.cell1
      have fx := SX.out.free
      have g0 := fx 0
      have g1 := fx 1
      clear fr fx
      by_cases h6 : a0 = 6
      · have h6' : ((a0 : Int) == 6) = true := by simp; omega
        have h0' : ((a0 : Int) != 0) = true := by simp; omega
        go_wp2
        go_region
        go_wp2
        refine ret_ts rfl R _ _ rfl (BR.out.put _ _) rfl ?_
        refine ⟨.slice none 0 0, 6, b0, rfl, .inr (.inr ⟨hsz, HH.out, a0, b0, by rw [← HT.out]; exact RP.out, by rw [← HT.out]; exact .inl ⟨h6, rfl, rfl, rfl⟩⟩), ((HB.out.setCell (p := ⟨R, 0, none⟩) GR.out _).setCell (p := ⟨R, 1, none⟩) GR.out _).drew⟩
      · have h6' : ((a0 : Int) == 6) = false := by simp; omega
        cases tc with
        | false =>
          go_wp2
          have SY := hide (SX.out.put (.int .i64 6) (.int .i64 (s.size : Nat)))
          replace BR := hide (bx2_set (o := 1) (u := .int .i64 (s.size : Nat)) (bx2_set (o := 0) (u := .int .i64 6) BR.out (c := X) (by omega)) (c := X) (by omega))
          replace HB := hide ((HB.out.setCell (p := ⟨X, 0, none⟩) GX.out (.int .i64 6)).setCell (p := ⟨X, 1, none⟩) GX.out (.int .i64 (s.size : Nat)))
          clear c0 c1 f0 f1 d0 d1 g0 g1 SX
          generalize (w4.setCell ⟨X, 0, none⟩ (.int .i64 6)).setCell ⟨X, 1, none⟩ (.int .i64 (s.size : Nat)) = w5 at *
          have c0 := BR.out.cell0
          have c1 := BR.out.cell1
          have fr := BR.out.free
          have f0 := fr 0
          have f1 := fr 1
          have d0 := SY.out.cell0
          have d1 := SY.out.cell1
          clear fr
          go_region
          go_wp2
          refine ret_ts rfl R _ _ rfl (BR.out.put _ _) rfl ?_
          refine ⟨.slice none 0 0, 6, s.size, rfl, .inr (.inr ⟨hsz, HH.out, a0, b0, by rw [← HT.out]; exact RP.out, by rw [← HT.out]; exact .inr (.inl ⟨h6, rfl, rfl, rfl, rfl⟩)⟩), ((HB.out.setCell (p := ⟨R, 0, none⟩) GR.out _).setCell (p := ⟨R, 1, none⟩) GR.out _).drew⟩
        | true =>
          by_cases ht0 : tb.size = 0
          · have he : tb.toList.isEmpty = true := by rw [str_empty, ht0]; rfl
            by_cases h0 : a0 = 0
            · have h0' : ((a0 : Int) != 0) = false := by simp; omega
              go_wp2
              obtain ⟨zs, z1, z2⟩ := RN.out h0
              refine ret_ts rfl R _ _ rfl (BR.out.put _ _) rfl ?_
              refine ⟨v0, 0, 0, rfl, .inr (.inr ⟨hsz, HH.out, a0, b0, by rw [← HT.out]; exact RP.out, by rw [← HT.out]; exact .inr (.inr (.inr (.inr ⟨h0, rfl, ht0, rfl, rfl, zs, z1, (z2.set2 BR.out).set2 (BR.out.set0 (.int .i64 0))⟩)))⟩), (HB.out.setCell (p := ⟨R, 0, none⟩) GR.out _).setCell (p := ⟨R, 1, none⟩) GR.out _⟩
            · have h0' : ((a0 : Int) != 0) = true := by simp; omega
              go_wp2
              go_region
              go_wp2
              refine ret_ts rfl R _ _ rfl (BR.out.put _ _) rfl ?_
              refine ⟨.slice none 0 0, a0, b0, rfl, .inr (.inr ⟨hsz, HH.out, a0, b0, by rw [← HT.out]; exact RP.out, by rw [← HT.out]; exact .inr (.inr (.inr (.inl ⟨h6, h0, rfl, ht0, rfl, rfl, rfl⟩)))⟩), ((HB.out.setCell (p := ⟨R, 0, none⟩) GR.out _).setCell (p := ⟨R, 1, none⟩) GR.out _).drew⟩
          · have he : tb.toList.isEmpty = false := by rw [str_empty]; simp [ht0]
            have sb := SB.out
            go_wp2
            have SY := hide (SX.out.put (.int .i64 6) (.int .i64 ((s.size : Int) - (tb.size : Int))))
            replace BR := hide (bx2_set (o := 1) (u := .int .i64 ((s.size : Int) - (tb.size : Int))) (bx2_set (o := 0) (u := .int .i64 6) BR.out (c := X) (by omega)) (c := X) (by omega))
            replace HB := hide ((HB.out.setCell (p := ⟨X, 0, none⟩) GX.out (.int .i64 6)).setCell (p := ⟨X, 1, none⟩) GX.out (.int .i64 ((s.size : Int) - (tb.size : Int))))
            clear c0 c1 f0 f1 d0 d1 g0 g1 SX
            generalize (w4.setCell ⟨X, 0, none⟩ (.int .i64 6)).setCell ⟨X, 1, none⟩ (.int .i64 ((s.size : Int) - (tb.size : Int))) = w5 at *
            have c0 := BR.out.cell0
            have c1 := BR.out.cell1
            have fr := BR.out.free
            have f0 := fr 0
            have f1 := fr 1
            have d0 := SY.out.cell0
            have d1 := SY.out.cell1
            clear fr
            go_region
            go_wp2
            have hcs : ((s.size : Int) - (tb.size : Int)) = ((s.size - tb.size : Nat) : Int) := by omega
            rw [hcs]
            refine ret_ts rfl R _ _ rfl (BR.out.put _ _) rfl ?_
            refine ⟨.slice none 0 0, 6, (s.size - tb.size), rfl, .inr (.inr ⟨hsz, HH.out, a0, b0, by rw [← HT.out]; exact RP.out, by rw [← HT.out]; exact .inr (.inr (.inl ⟨h6, rfl, ht0, rfl, rfl, rfl⟩))⟩), ((HB.out.setCell (p := ⟨R, 0, none⟩) GR.out _).setCell (p := ⟨R, 1, none⟩) GR.out _).drew⟩
end Go.Proofs.YtdafdfgkfkanjaaDoor

namespace Go.Proofs.YtdafdfgkfkanjaaDoor
open Go.RowKit

/-- a number and a word are handed back -/
theorem ret_rat1 {fn : Func} {R : Ending → World → Prop} {a : Act} {w : World} {p u : Tmp} (h : fn.results = #[.cell p 54, .tmp u]) (g : Nat) (x y : Value)
    (hp : a.tmps.getD p undef = .pointer (some ⟨g, 0, none⟩)) (hg : Box2 w g 54 x y) (hd : a.defers = []) (hR : R (.returned (.tuple #[.agg #[x, y], a.tmps.getD u undef])) w) : bodyPost Tryd.prog fn R .ret a w := by
  refine bodyPost_ret ?_ hd hR
  have hp' : a.tmps[p]?.getD undef = .pointer (some ⟨g, 0, none⟩) := by simpa using hp
  simp [results, h, hp', asAddr, run_loadVar_row w g 54 54 #[x, y] (0, 0) _ hg Tryd.underlying54 rfl Tryd.infoRef]
theorem rzero (w : World) : RInt w (.agg #[.bool false, .slice none 0 0]) 0 := ⟨false, 0, none, 0, rfl, Nums.nil_mk _ _ _ (Nat.zero_le _), rfl, fun _ => rfl⟩
theorem nv_dlen (s : ByteArray) (k : Nat) (h : Good s k) (hk : k ≤ 65536) : (D.lim (Int.natAbs (nv s k : Int))).length ≤ 100000000 ∧ (D.lim (Int.natAbs ((nv s k : Int) * 10))).length ≤ 100000000 := by
  have h1 := nv_lt s k h
  have h2 : 10 ^ k ≤ D.BB ^ k := Nat.pow_le_pow_left (by decide) _
  have h3 : 10 ^ (k + 1) ≤ D.BB ^ (k + 1) := Nat.pow_le_pow_left (by decide) _
  constructor
  · refine Nat.le_trans (D.lim_length_le (k := k) ?_) (by omega)
    rw [Int.natAbs_natCast]; omega
  · refine Nat.le_trans (D.lim_length_le (k := k + 1) ?_) (by omega)
    rw [show ((nv s k : Int) * 10) = ((nv s k * 10 : Nat) : Int) by omega, Int.natAbs_natCast]
    rw [pow_succ10] at h3
    omega
theorem dig_len (x : Nat) (h : x ≤ 9) : (D.lim (Int.natAbs (x : Int))).length ≤ 100000000 :=
  Nat.le_trans (D.lim_length_le (k := 1) (by rw [Int.natAbs_natCast]; unfold D.BB; omega)) (by decide)
theorem dig_wrap64 (x : Nat) (h : x ≤ 9) : IntKind.i64.wrap (IntKind.u8.wrap (48 + (x : Int) - 48)) = (x : Int) := by rw [IntKind.wrap_i64, IntKind.wrap_u8]; omega
theorem cutP_no {s : ByteArray} (h : hp s 45 = false) : cutP s 45 = s := by unfold cutP; rw [h]; rfl
theorem cutP_yes {s : ByteArray} (h : hp s 45 = true) : cutP s 45 = rest1 s := by unfold cutP; rw [h]; rfl

set_option maxRecDepth 100000 in
set_option maxHeartbeats 4000000 in
theorem rread2_any (s : ByteArray) (w : World) (hs : s.size ≤ 65536) :
    Calls Tryd.prog 25 #[.string s] w fun e w' => ∃ v z p, e = .returned (.tuple #[v, .int .i64 p]) ∧ RInt w' v z ∧ ((∃ a b : Nat, IRd s 0 a b ∧ a ≠ 0 ∧ z = 0 ∧ p = (b : Int)) ∨ (IRd s z 0 0 ∧ p = -1)) ∧ Below w.heap.size w w' := by
  have HE := hide (nboxes2 54 w (.bool false) (.slice none 0 0) (.bool false) (.slice none 0 0))
  go_enter Tryd.func25, Tryd.ntmps25
  cases hc : hp s 45 with
  | false =>
    obtain ⟨d, hd⟩ : ∃ d, d = s := ⟨_, rfl⟩
    have HDS : Hid (s.size = d.size) := hide (by rw [hd])
    have HBT : Hid (∀ k, bt d k = bt s k) := hide (fun k => by rw [hd])
    have HRD : Hid (∀ xs a b, Rd d xs a b → a ≠ 0 → ∀ i, i = b + 0 → IRd s 0 a i) := hide (fun xs a b h ha i hi => .inr (.inr ⟨hs, by rw [hc]; simp, xs, a, b, by rw [cutP_no hc, ← hd]; exact h, .inl ⟨ha, rfl, rfl, by rw [cutP_no hc]; omega⟩⟩))
    have HRZ0 : Hid (0 < s.size → Good d d.size → IRd s (sg false (nv d d.size)) 0 0) := hide (fun h0 hg => .inr (.inr ⟨hs, by rw [hc]; simp, _, 0, 0, by rw [cutP_no hc, ← hd]; exact .inr (.inr (.inr ⟨by rw [hd]; exact hs, by rw [hd]; exact h0, hg, rfl, rfl, rfl⟩)), .inr ⟨rfl, by rw [hc, val_lim], rfl, rfl⟩⟩))
    have HC := hide hc
    clear hc hd
    by_cases h0 : s.size = 0
    · go_wp2
      refine ret_rat1 rfl w.heap.size _ _ rfl (Box2.new _ _ _ _) rfl ?_
      exact ⟨_, 0, 0, rfl, rzero _, .inl ⟨6, 0, HRD.out [] 6 0 (.inr (.inl ⟨by have := HDS.out; omega, rfl, rfl, rfl⟩)) (by decide) 0 rfl, by decide, rfl, rfl⟩, below_alloc _ _⟩
    · have hz0 : 0 < s.size := by omega
      have HRZ := hide (HRZ0.out hz0)
      have hb0 := bt_get s 0 hz0
      have hn45 : bt s 0 ≠ 45 := hp_no HC.out hz0
      have hne : (((bt s 0 : Nat) : Int) == 45) = false := by rw [beq_eq_false_iff_ne]; omega
      have hse : ¬ s = ByteArray.empty := fun h => by rw [h] at hz0; exact absurd hz0 (by decide)
      clear h0 HRZ0 hn45
      by_cases c1 : bt s 0 < 48
      · go_wp2
        refine ret_rat1 rfl w.heap.size _ _ rfl (Box2.new _ _ _ _) rfl ?_
        exact ⟨_, 0, 0, rfl, rzero _, .inl ⟨6, 0, HRD.out [] 6 0 (.inr (.inr (.inl ⟨by have := HDS.out; omega, 0, by have := HDS.out; omega, Good.zero _, fun f => by have := f.lo; rw [HBT.out] at this; omega, rfl, rfl, rfl⟩))) (by decide) 0 rfl, by decide, rfl, rfl⟩, below_alloc _ _⟩
      by_cases c2 : 57 < bt s 0
      · go_wp2
        refine ret_rat1 rfl w.heap.size _ _ rfl (Box2.new _ _ _ _) rfl ?_
        exact ⟨_, 0, 0, rfl, rzero _, .inl ⟨6, 0, HRD.out [] 6 0 (.inr (.inr (.inl ⟨by have := HDS.out; omega, 0, by have := HDS.out; omega, Good.zero _, fun f => by have := f.hi; rw [HBT.out] at this; omega, rfl, rfl, rfl⟩))) (by decide) 0 rfl, by decide, rfl, rfl⟩, below_alloc _ _⟩
      go_wp2
      have HB := hide HE.out.2.2
      have HR := hide HE.out.1
      have HO : Hid (RVar _ (w.heap.size + 1) false none 0 0 (nv d (0 - 0) : Int)) := hide ⟨HE.out.2.1, rzero _⟩
      clear HE hne c1 c2 hb0
      go_loopw [6] (fun iv wr => ∃ i : Nat, 0 ≤ i ∧ i ≤ s.size ∧ iv = .int .i64 i ∧ Good d (i - 0) ∧ Below w.heap.size w wr ∧ Box2 wr w.heap.size 54 (.bool false) (.slice none 0 0) ∧ ∃ sb m n c, RVar wr (w.heap.size + 1) sb m n c (nv d (i - 0) : Int)) (fun iv _ => s.size - (intOf iv).toNat)
      case atStart => exact ⟨0, Nat.le_refl _, by omega, rfl, Good.zero _, HB.out, HR.out, _, _, _, _, HO.out⟩
      case round =>
        clear HB HR HO
        obtain ⟨i, hi1, hi2, rfl, hg, hB, hR, sb, m, n, c, hV⟩ := hrel
        have HG := hide hg
        have HB := hide hB
        have HR := hide hR
        have HV := hide hV
        clear hg hB hR hV
        by_cases hlt : i < s.size
        · have hb := bt_get s i hlt
          have hbt := bt_get s 0 (by omega)
          have HEI : Hid (bt s i = bt d (i - 0)) := hide (by rw [HBT.out (i - 0)]; congr 1)
          have HE0 : Hid (bt s 0 = bt d 0) := hide (by rw [HBT.out 0])
          by_cases c1 : bt s i < 48
          · skip
            have hr0 := HR.out.cell0
            have hr1 := HR.out.cell1
            have hf0 := HR.out.free 0
            have hf1 := HR.out.free 1
            go_wp2
            refine ret_rat1 rfl w.heap.size _ _ rfl (HR.out.put _ _) rfl ?_
            exact ⟨_, 0, i, rfl, rzero _, .inl ⟨6, i, HRD.out _ 6 (i - 0) (.inr (.inr (.inl ⟨by have := HDS.out; omega, (i - 0), by have := HDS.out; omega, HG.out, fun f => by have := f.lo; have := HEI.out; omega, rfl, rfl, rfl⟩))) (by decide) i (by omega), by decide, rfl, rfl⟩, below_put HB.out (Nat.le_refl _) _ _⟩
          by_cases c2 : 57 < bt s i
          · skip
            have hr0 := HR.out.cell0
            have hr1 := HR.out.cell1
            have hf0 := HR.out.free 0
            have hf1 := HR.out.free 1
            go_wp2
            refine ret_rat1 rfl w.heap.size _ _ rfl (HR.out.put _ _) rfl ?_
            exact ⟨_, 0, i, rfl, rzero _, .inl ⟨6, i, HRD.out _ 6 (i - 0) (.inr (.inr (.inl ⟨by have := HDS.out; omega, (i - 0), by have := HDS.out; omega, HG.out, fun f => by have := f.hi; have := HEI.out; omega, rfl, rfl, rfl⟩))) (by decide) i (by omega), by decide, rfl, rfl⟩, below_put HB.out (Nat.le_refl _) _ _⟩
          by_cases c3 : i = 1 ∧ bt s 0 = 48
          · obtain ⟨c3, c4⟩ := c3
            subst c3
            rw [c4] at hbt
            have hr0 := HR.out.cell0
            have hr1 := HR.out.cell1
            have hf0 := HR.out.free 0
            have hf1 := HR.out.free 1
            go_wp2
            refine ret_rat1 rfl w.heap.size _ _ rfl (HR.out.put _ _) rfl ?_
            exact ⟨_, 0, 1, rfl, rzero _, .inl ⟨6, 1, HRD.out _ 6 (1 - 0) (.inr (.inr (.inl ⟨by have := HDS.out; omega, (1 - 0), by have := HDS.out; omega, HG.out, fun f => f.lead (by omega) (by have := HE0.out; omega), rfl, rfl, rfl⟩))) (by decide) 1 (by omega), by decide, rfl, rfl⟩, below_put HB.out (Nat.le_refl _) _ _⟩
          have HF0 := hide (show Fine d (i - 0) from ⟨by have := HEI.out; omega, by have := HEI.out; omega, fun h1 h2 => by
            have f1 := HG.out 0 (by omega)
            by_cases h3 : i = 1
            · exact c3 ⟨h3, by have := HE0.out; omega⟩
            · exact (HG.out 1 (by omega)).lead (Nat.le_refl _) h2⟩)
          obtain ⟨x, hx⟩ : ∃ x, bt s i = 48 + x := ⟨bt s i - 48, by omega⟩
          have h9 : x ≤ 9 := by omega
          have HX : Hid (nv d (i + 1 - 0) = nv d (i - 0) * 10 + x) := hide (by rw [show i + 1 - 0 = (i - 0) + 1 by omega, nv, ← HEI.out, hx]; omega)
          have HLN := hide (nv_dlen d (i - 0) HG.out (by omega))
          rw [hx] at hb
          by_cases h3 : i = 1
          · subst h3
            have h4' : (((bt s 0 : Nat) : Int) == 48) = false := by rw [beq_eq_false_iff_ne]; intro h4; exact c3 ⟨rfl, by omega⟩
            clear c3 hx
            go_wp2_with fail
            refine wp_calm (fun w' => Below w.heap.size w w' ∧ Box2 w' w.heap.size 54 (.bool false) (.slice none 0 0) ∧ RVar w' (w.heap.size + 1) sb m n c (nv d (1 - 0) : Int)) (fun j => j != 10) 11 #[false, false, false, false, false, false, false, false, false, false, false] (by kernel_rfl) rfl rfl ?_
            have HF := hide (And.intro (HB.out.drew) (And.intro (HR.out.drew) (HV.out.drew)))
            generalize wr.drew = wrd at *
            refine Calm.take (i := 0) (v := ?_) (a' := ?_) (l' := #[true, false, false, false, false, false, false, false, false, false, false]) (d := some 74) rfl (by kernel_rfl) (by kernel_rfl) (by kernel_rfl) (by kernel_rfl) (fun _ _ _ h => h) HF.out rfl ?_ rfl rfl ?_ ?_
            rotate_left
            · intro w' hF; have f10 := hF.2.1.cell0; have f11 := hF.2.1.cell1; have f20 := hF.2.2.box.cell0; have f21 := hF.2.2.box.cell1; clear hF; go_simp; try rfl
            rotate_left
            · simp only [Act.put]; exact rfl
            refine Calm.take (i := 3) (v := ?_) (a' := ?_) (l' := #[true, false, false, true, false, false, false, false, false, false, false]) (d := some 77) rfl (by kernel_rfl) (by kernel_rfl) (by kernel_rfl) (by kernel_rfl) (fun _ _ _ h => h) HF.out rfl ?_ rfl rfl ?_ ?_
            rotate_left
            · intro w' hF; clear hF; go_simp; try rfl
            rotate_left
            · simp only [Act.put]; exact rfl
            refine Calm.take (i := 4) (v := ?_) (a' := ?_) (l' := #[true, false, false, true, true, false, false, false, false, false, false]) (d := some 78) rfl (by kernel_rfl) (by kernel_rfl) (by kernel_rfl) (by kernel_rfl) (fun _ _ _ h => h) HF.out rfl ?_ rfl rfl ?_ ?_
            rotate_left
            · intro w' hF; clear hF; go_simp; try rfl
            rotate_left
            · simp only [Act.put]; exact rfl
            refine Calm.take (i := 5) (v := ?_) (a' := ?_) (l' := #[true, false, false, true, true, true, false, false, false, false, false]) (d := some 79) rfl (by kernel_rfl) (by kernel_rfl) (by kernel_rfl) (by kernel_rfl) (fun _ _ _ h => h) HF.out rfl ?_ rfl rfl ?_ ?_
            rotate_left
            · intro w' hF; clear hF; go_simp; try rfl
            rotate_left
            · simp only [Act.put]; exact rfl
            refine Calm.take (i := 6) (v := ?_) (a' := ?_) (l' := #[true, false, false, true, true, true, true, false, false, false, false]) (d := some 80) rfl (by kernel_rfl) (by kernel_rfl) (by kernel_rfl) (by kernel_rfl) (fun _ _ _ h => h) HF.out rfl ?_ rfl rfl ?_ ?_
            rotate_left
            · intro w' hF; clear hF; go_simp; try rfl
            rotate_left
            · simp only [Act.put]; exact rfl
            refine Calm.take (i := 7) (v := ?_) (a' := ?_) (l' := #[true, false, false, true, true, true, true, true, false, false, false]) (d := some 81) rfl (by kernel_rfl) (by kernel_rfl) (by kernel_rfl) (by kernel_rfl) (fun _ _ _ h => h) HF.out rfl ?_ rfl rfl ?_ ?_
            rotate_left
            · intro w' hF; clear hF; go_simp; try rfl
            rotate_left
            · simp only [Act.put]; exact rfl
            refine Calm.one (i := 1) (l' := #[true, true, false, true, true, true, true, true, false, false, false]) (by kernel_rfl) rfl rfl rfl fun K hK => ?_
            go_simp
            refine (rof_any 10 _ (by decide) (by decide)).mono ?_
            rintro e u1 ⟨v1, rfl, n1, hb⟩
            have HF' := hide (And.intro (HF.out.1.trans ((hb).mono HF.out.1.size)) (And.intro (HF.out.2.1.step (hb)) (HF.out.2.2.step (hb))))
            have T1 := hide (n1)
            refine hK _ _ (fun _ => HF'.out) ?_
            clear hK K HF hb n1
            have HF := hide HF'.out
            clear HF'
            refine Calm.one (i := 2) (l' := #[true, true, true, true, true, true, true, true, false, false, false]) (by kernel_rfl) rfl rfl rfl fun K hK => ?_
            go_simp
            refine (rmul2_any _ _ (nv d (1 - 0) : Int) 10 _ HF.out.2.2.int T1.out HLN.out.1 (by decide)).mono ?_
            rintro e u2 ⟨v2, rfl, n2, hb⟩
            clear T1
            have HF' := hide (And.intro (HF.out.1.trans ((hb).mono HF.out.1.size)) (And.intro (HF.out.2.1.step (hb)) (HF.out.2.2.step (hb))))
            have T2 := hide (n2)
            refine hK _ _ (fun _ => HF'.out) ?_
            clear hK K HF hb n2
            have HF := hide HF'.out
            clear HF'
            refine Calm.one (i := 8) (l' := #[true, true, true, true, true, true, true, true, true, false, false]) (by kernel_rfl) rfl rfl rfl fun K hK => ?_
            go_simp
            rw [dig_wrap64 x h9]
            refine (rof_any (x : Int) _ (by omega) (by omega)).mono ?_
            rintro e u3 ⟨v3, rfl, n3, hb⟩
            replace T2 := hide (T2.out.below (hb))
            have HF' := hide (And.intro (HF.out.1.trans ((hb).mono HF.out.1.size)) (And.intro (HF.out.2.1.step (hb)) (HF.out.2.2.step (hb))))
            have T3 := hide (n3)
            refine hK _ _ (fun _ => HF'.out) ?_
            clear hK K HF hb n3
            have HF := hide HF'.out
            clear HF'
            refine Calm.one (i := 9) (l' := #[true, true, true, true, true, true, true, true, true, true, false]) (by kernel_rfl) rfl rfl rfl fun K hK => ?_
            go_simp
            refine (radd2_any _ _ ((nv d (1 - 0) : Int) * 10) (x : Int) _ T2.out T3.out HLN.out.2 (dig_len x h9)).mono ?_
            rintro e u4 ⟨v4, rfl, n4, hb⟩
            obtain ⟨b4, k4, a4, c4, rfl, m4, e4, z4⟩ := n4
            have n4 : RInt u4 (.agg #[.bool b4, .slice a4 (D.lim k4).length c4]) (((nv d (1 - 0) : Int) * 10) + (x : Int)) := ⟨b4, k4, a4, c4, rfl, m4, e4, z4⟩
            clear T2
            clear T3
            have HF' := hide (And.intro (HF.out.1.trans ((hb).mono HF.out.1.size)) (And.intro (HF.out.2.1.step (hb)) (HF.out.2.2.step (hb))))
            have T4 := hide (n4)
            refine hK _ _ (fun _ => HF'.out) ?_
            clear hK K HF hb n4 m4 e4 z4
            have HF := hide HF'.out
            clear HF'
            refine Calm.one (i := 10) (l' := #[true, true, true, true, true, true, true, true, true, true, true]) (by kernel_rfl) rfl rfl rfl fun K hK => ?_
            have hc0 := HF.out.2.2.box.cell0
            have hc1 := HF.out.2.2.box.cell1
            have hf0 := HF.out.2.2.box.free 0
            have hf1 := HF.out.2.2.box.free 1
            go_simp
            refine hK _ _ (fun h => absurd h (by decide)) ?_
            clear hK K
            refine Calm.done (by kernel_rfl) ?_
            go_wp2
            go_roundw
            case rel => exact ⟨1 + 1, by omega, by omega, by go_num, by rw [show 1 + 1 - 0 = 1 - 0 + 1 by omega]; exact HG.out.succ HF0.out, below_put HF.out.1 (Nat.le_succ _) _ _, HF.out.2.1.other (by omega) _ _, b4, a4, _, c4, ⟨HF.out.2.2.box.put _ _, by rw [HX.out]; have := T4.out.keep (keeps2 HF.out.2.2.box (by simp) (by simp) (.bool b4) (.slice a4 (D.lim k4).length c4)); simpa using this⟩⟩
            case measure => simp [intOf]; omega
          · have h3' : ((i : Int) == 1) = false := by rw [beq_eq_false_iff_ne]; omega
            clear c3 hx h3
            go_wp2_with fail
            refine wp_calm (fun w' => Below w.heap.size w w' ∧ Box2 w' w.heap.size 54 (.bool false) (.slice none 0 0) ∧ RVar w' (w.heap.size + 1) sb m n c (nv d (i - 0) : Int)) (fun j => j != 10) 11 #[false, false, false, false, false, false, false, false, false, false, false] (by kernel_rfl) rfl rfl ?_
            have HF := hide (And.intro (HB.out.drew) (And.intro (HR.out.drew) (HV.out.drew)))
            generalize wr.drew = wrd at *
            refine Calm.take (i := 0) (v := ?_) (a' := ?_) (l' := #[true, false, false, false, false, false, false, false, false, false, false]) (d := some 74) rfl (by kernel_rfl) (by kernel_rfl) (by kernel_rfl) (by kernel_rfl) (fun _ _ _ h => h) HF.out rfl ?_ rfl rfl ?_ ?_
            rotate_left
            · intro w' hF; have f10 := hF.2.1.cell0; have f11 := hF.2.1.cell1; have f20 := hF.2.2.box.cell0; have f21 := hF.2.2.box.cell1; clear hF; go_simp; try rfl
            rotate_left
            · simp only [Act.put]; exact rfl
            refine Calm.take (i := 3) (v := ?_) (a' := ?_) (l' := #[true, false, false, true, false, false, false, false, false, false, false]) (d := some 77) rfl (by kernel_rfl) (by kernel_rfl) (by kernel_rfl) (by kernel_rfl) (fun _ _ _ h => h) HF.out rfl ?_ rfl rfl ?_ ?_
            rotate_left
            · intro w' hF; clear hF; go_simp; try rfl
            rotate_left
            · simp only [Act.put]; exact rfl
            refine Calm.take (i := 4) (v := ?_) (a' := ?_) (l' := #[true, false, false, true, true, false, false, false, false, false, false]) (d := some 78) rfl (by kernel_rfl) (by kernel_rfl) (by kernel_rfl) (by kernel_rfl) (fun _ _ _ h => h) HF.out rfl ?_ rfl rfl ?_ ?_
            rotate_left
            · intro w' hF; clear hF; go_simp; try rfl
            rotate_left
            · simp only [Act.put]; exact rfl
            refine Calm.take (i := 5) (v := ?_) (a' := ?_) (l' := #[true, false, false, true, true, true, false, false, false, false, false]) (d := some 79) rfl (by kernel_rfl) (by kernel_rfl) (by kernel_rfl) (by kernel_rfl) (fun _ _ _ h => h) HF.out rfl ?_ rfl rfl ?_ ?_
            rotate_left
            · intro w' hF; clear hF; go_simp; try rfl
            rotate_left
            · simp only [Act.put]; exact rfl
            refine Calm.take (i := 6) (v := ?_) (a' := ?_) (l' := #[true, false, false, true, true, true, true, false, false, false, false]) (d := some 80) rfl (by kernel_rfl) (by kernel_rfl) (by kernel_rfl) (by kernel_rfl) (fun _ _ _ h => h) HF.out rfl ?_ rfl rfl ?_ ?_
            rotate_left
            · intro w' hF; clear hF; go_simp; try rfl
            rotate_left
            · simp only [Act.put]; exact rfl
            refine Calm.take (i := 7) (v := ?_) (a' := ?_) (l' := #[true, false, false, true, true, true, true, true, false, false, false]) (d := some 81) rfl (by kernel_rfl) (by kernel_rfl) (by kernel_rfl) (by kernel_rfl) (fun _ _ _ h => h) HF.out rfl ?_ rfl rfl ?_ ?_
            rotate_left
            · intro w' hF; clear hF; go_simp; try rfl
            rotate_left
            · simp only [Act.put]; exact rfl
            refine Calm.one (i := 1) (l' := #[true, true, false, true, true, true, true, true, false, false, false]) (by kernel_rfl) rfl rfl rfl fun K hK => ?_
            go_simp
            refine (rof_any 10 _ (by decide) (by decide)).mono ?_
            rintro e u1 ⟨v1, rfl, n1, hb⟩
            have HF' := hide (And.intro (HF.out.1.trans ((hb).mono HF.out.1.size)) (And.intro (HF.out.2.1.step (hb)) (HF.out.2.2.step (hb))))
            have T1 := hide (n1)
            refine hK _ _ (fun _ => HF'.out) ?_
            clear hK K HF hb n1
            have HF := hide HF'.out
            clear HF'
            refine Calm.one (i := 2) (l' := #[true, true, true, true, true, true, true, true, false, false, false]) (by kernel_rfl) rfl rfl rfl fun K hK => ?_
            go_simp
            refine (rmul2_any _ _ (nv d (i - 0) : Int) 10 _ HF.out.2.2.int T1.out HLN.out.1 (by decide)).mono ?_
            rintro e u2 ⟨v2, rfl, n2, hb⟩
            clear T1
            have HF' := hide (And.intro (HF.out.1.trans ((hb).mono HF.out.1.size)) (And.intro (HF.out.2.1.step (hb)) (HF.out.2.2.step (hb))))
            have T2 := hide (n2)
            refine hK _ _ (fun _ => HF'.out) ?_
            clear hK K HF hb n2
            have HF := hide HF'.out
            clear HF'
            refine Calm.one (i := 8) (l' := #[true, true, true, true, true, true, true, true, true, false, false]) (by kernel_rfl) rfl rfl rfl fun K hK => ?_
            go_simp
            rw [dig_wrap64 x h9]
            refine (rof_any (x : Int) _ (by omega) (by omega)).mono ?_
            rintro e u3 ⟨v3, rfl, n3, hb⟩
            replace T2 := hide (T2.out.below (hb))
            have HF' := hide (And.intro (HF.out.1.trans ((hb).mono HF.out.1.size)) (And.intro (HF.out.2.1.step (hb)) (HF.out.2.2.step (hb))))
            have T3 := hide (n3)
            refine hK _ _ (fun _ => HF'.out) ?_
            clear hK K HF hb n3
            have HF := hide HF'.out
            clear HF'
            refine Calm.one (i := 9) (l' := #[true, true, true, true, true, true, true, true, true, true, false]) (by kernel_rfl) rfl rfl rfl fun K hK => ?_
            go_simp
            refine (radd2_any _ _ ((nv d (i - 0) : Int) * 10) (x : Int) _ T2.out T3.out HLN.out.2 (dig_len x h9)).mono ?_
            rintro e u4 ⟨v4, rfl, n4, hb⟩
            obtain ⟨b4, k4, a4, c4, rfl, m4, e4, z4⟩ := n4
            have n4 : RInt u4 (.agg #[.bool b4, .slice a4 (D.lim k4).length c4]) (((nv d (i - 0) : Int) * 10) + (x : Int)) := ⟨b4, k4, a4, c4, rfl, m4, e4, z4⟩
            clear T2
            clear T3
            have HF' := hide (And.intro (HF.out.1.trans ((hb).mono HF.out.1.size)) (And.intro (HF.out.2.1.step (hb)) (HF.out.2.2.step (hb))))
            have T4 := hide (n4)
            refine hK _ _ (fun _ => HF'.out) ?_
            clear hK K HF hb n4 m4 e4 z4
            have HF := hide HF'.out
            clear HF'
            refine Calm.one (i := 10) (l' := #[true, true, true, true, true, true, true, true, true, true, true]) (by kernel_rfl) rfl rfl rfl fun K hK => ?_
            have hc0 := HF.out.2.2.box.cell0
            have hc1 := HF.out.2.2.box.cell1
            have hf0 := HF.out.2.2.box.free 0
            have hf1 := HF.out.2.2.box.free 1
            go_simp
            refine hK _ _ (fun h => absurd h (by decide)) ?_
            clear hK K
            refine Calm.done (by kernel_rfl) ?_
            go_wp2
            go_roundw
            case rel => exact ⟨i + 1, by omega, by omega, by go_num, by rw [show i + 1 - 0 = i - 0 + 1 by omega]; exact HG.out.succ HF0.out, below_put HF.out.1 (Nat.le_succ _) _ _, HF.out.2.1.other (by omega) _ _, b4, a4, _, c4, ⟨HF.out.2.2.box.put _ _, by rw [HX.out]; have := T4.out.keep (keeps2 HF.out.2.2.box (by simp) (by simp) (.bool b4) (.slice a4 (D.lim k4).length c4)); simpa using this⟩⟩
            case measure => simp [intOf]; omega
        · have e : i = s.size := by omega
          subst e
          clear hi1 hi2 hlt
          have hv1 := HV.out.box.cell1
          have hv0 := HV.out.box.cell0
          obtain ⟨b4, k4, a4, c4, e3, m4, e4, z4⟩ := HV.out.int
          simp only [Value.agg.injEq, Array.mk.injEq, List.cons.injEq, Value.bool.injEq, Value.slice.injEq, and_true] at e3
          obtain ⟨rfl, rfl, rfl, rfl⟩ := e3
          have HK : Hid (k4 = nv d d.size) := hide (by have h1 := congrArg Int.natAbs e4; rw [sg_abs, Int.natAbs_natCast, show s.size - 0 = d.size by have := HDS.out; omega] at h1; exact h1.symm)
          have HM := hide m4
          clear m4 e4 z4
          go_wp2_with fail
          refine (rnorm2_any false _ (D.lim k4) _ HM.out (D.ok_lim k4)).mono ?_
          rintro e w2 ⟨v2, rfl, hr2, hb2⟩
          rw [D.val_lim, HK.out] at hr2
          obtain ⟨b5, k5, a5, c5, rfl, m5, e5, z5⟩ := hr2
          replace HR := hide (HR.out.step hb2)
          replace HB := hide (HB.out.trans (hb2.mono HB.out.size))
          have hc0 := HR.out.cell0
          have hc1 := HR.out.cell1
          have hf0 := HR.out.free 0
          have hf1 := HR.out.free 1
          clear hb2 hv0 hv1
          go_wp2
          refine ret_rat1 rfl w.heap.size _ _ rfl (HR.out.put _ _) rfl ?_
          exact ⟨_, _, -1, rfl, ⟨b5, k5, a5, c5, rfl, keeps2 HR.out (by simp) (by simp) _ _ _ _ m5, e5, z5⟩, .inr ⟨HRZ.out (show Good d d.size by have := HG.out; rwa [show s.size - 0 = d.size by have := HDS.out; omega] at this), rfl⟩, below_put HB.out (Nat.le_refl _) _ _⟩
  | true =>
    obtain ⟨hz0, hm0⟩ := hp_yes hc
    have hm : bt s 0 = 45 := hm0
    clear hm0
    obtain ⟨d, hd⟩ : ∃ d, d = rest1 s := ⟨_, rfl⟩
    have HDS : Hid (s.size = d.size + 1) := hide (by rw [hd, rest1_size]; omega)
    have HBT : Hid (∀ k, bt d k = bt s (k + 1)) := hide (fun k => by rw [hd, bt_rest])
    have HB48 : Hid (bt s 1 = 48 → 1 < s.size → IRd s 0 6 1) := hide (fun h1 h2 => .inr (.inl ⟨hs, hc, by unfold hp; exact decide_eq_true ⟨by rw [rest1_size]; omega, by rw [bt_rest]; exact h1⟩, rfl, rfl, rfl⟩))
    have HRD : Hid (∀ xs a b, Rd d xs a b → a ≠ 0 → ∀ i, i = b + 1 → bt d 0 ≠ 48 → IRd s 0 a i) := hide (fun xs a b h ha i hi h48 => .inr (.inr ⟨hs, fun h => h48 (by rw [hd]; exact (hp_yes h.2).2), xs, a, b, by rw [cutP_yes hc, ← hd]; exact h, .inl ⟨ha, rfl, rfl, by rw [cutP_yes hc, rest1_size]; omega⟩⟩))
    have HRZ0 : Hid (0 < d.size → bt d 0 ≠ 48 → Good d d.size → IRd s (sg true (nv d d.size)) 0 0) := hide (fun h0 h48 hg => .inr (.inr ⟨hs, fun h => h48 (by rw [hd]; exact (hp_yes h.2).2), _, 0, 0, by rw [cutP_yes hc, ← hd]; exact .inr (.inr (.inr ⟨by rw [hd, rest1_size]; omega, h0, hg, rfl, rfl, rfl⟩)), .inr ⟨rfl, by rw [hc, val_lim], rfl, rfl⟩⟩))
    have HC := hide hc
    have hb0 := bt_get s 0 hz0
    rw [hm] at hb0
    clear hc hd
    by_cases h1 : s.size = 1
    · have hI : ((1 : Int) ≤ (s.size : Int)) := by omega
      have hI2 : ((s.size : Int) ≤ 1) := by omega
      go_wp2
      refine ret_rat1 rfl w.heap.size _ _ rfl (Box2.new _ _ _ _) rfl ?_
      have hd0 : d.size = 0 := by have := HDS.out; omega
      exact ⟨_, 0, 1, rfl, rzero _, .inl ⟨6, 1, HRD.out [] 6 0 (.inr (.inl ⟨hd0, rfl, rfl, rfl⟩)) (by decide) 1 rfl (by unfold bt; rw [dif_neg (by omega)]; decide), by decide, rfl, rfl⟩, below_alloc _ _⟩
    · have hz1 : 1 < s.size := by omega
      have hb1 := bt_get s 1 hz1
      by_cases c1 : bt s 1 < 48
      · go_wp2
        refine ret_rat1 rfl w.heap.size _ _ rfl (Box2.new _ _ _ _) rfl ?_
        exact ⟨_, 0, 1, rfl, rzero _, .inl ⟨6, 1, HRD.out [] 6 0 (.inr (.inr (.inl ⟨by have := HDS.out; omega, 0, by have := HDS.out; omega, Good.zero _, fun f => by have := f.lo; rw [HBT.out, Nat.zero_add] at this; omega, rfl, rfl, rfl⟩))) (by decide) 1 rfl (by rw [HBT.out, Nat.zero_add]; omega), by decide, rfl, rfl⟩, below_alloc _ _⟩
      by_cases c2 : 57 < bt s 1
      · go_wp2
        refine ret_rat1 rfl w.heap.size _ _ rfl (Box2.new _ _ _ _) rfl ?_
        exact ⟨_, 0, 1, rfl, rzero _, .inl ⟨6, 1, HRD.out [] 6 0 (.inr (.inr (.inl ⟨by have := HDS.out; omega, 0, by have := HDS.out; omega, Good.zero _, fun f => by have := f.hi; rw [HBT.out, Nat.zero_add] at this; omega, rfl, rfl, rfl⟩))) (by decide) 1 rfl (by rw [HBT.out, Nat.zero_add]; omega), by decide, rfl, rfl⟩, below_alloc _ _⟩
      by_cases c3 : bt s 1 = 48
      · rw [c3] at hb1
        go_wp2
        refine ret_rat1 rfl w.heap.size _ _ rfl (Box2.new _ _ _ _) rfl ?_
        exact ⟨_, 0, 1, rfl, rzero _, .inl ⟨6, 1, HB48.out c3 hz1, by decide, rfl, rfl⟩, below_alloc _ _⟩
      have H48 : Hid (bt d 0 ≠ 48) := hide (by rw [HBT.out, Nat.zero_add]; exact c3)
      have hne : (((bt s 1 : Nat) : Int) == 48) = false := by rw [beq_eq_false_iff_ne]; omega
      have HRZ := hide (HRZ0.out (by have := HDS.out; omega) H48.out)
      replace HRD := hide (fun xs a b h ha i hi => HRD.out xs a b h ha i hi H48.out)
      clear HRZ0 h1
      go_wp2
      have HB := hide HE.out.2.2
      have HR := hide HE.out.1
      have HO : Hid (RVar _ (w.heap.size + 1) false none 0 0 (nv d (1 - 1) : Int)) := hide ⟨HE.out.2.1, rzero _⟩
      clear HE hne c1 c2 c3 hb0 hb1
      go_loopw [6] (fun iv wr => ∃ i : Nat, 1 ≤ i ∧ i ≤ s.size ∧ iv = .int .i64 i ∧ Good d (i - 1) ∧ Below w.heap.size w wr ∧ Box2 wr w.heap.size 54 (.bool false) (.slice none 0 0) ∧ ∃ sb m n c, RVar wr (w.heap.size + 1) sb m n c (nv d (i - 1) : Int)) (fun iv _ => s.size - (intOf iv).toNat)
      case atStart => exact ⟨1, Nat.le_refl _, by omega, rfl, Good.zero _, HB.out, HR.out, _, _, _, _, HO.out⟩
      case round =>
        clear HB HR HO
        obtain ⟨i, hi1, hi2, rfl, hg, hB, hR, sb, m, n, c, hV⟩ := hrel
        have HG := hide hg
        have HB := hide hB
        have HR := hide hR
        have HV := hide hV
        clear hg hB hR hV
        by_cases hlt : i < s.size
        · have hb := bt_get s i hlt
          have hbt := bt_get s 1 (by omega)
          have HEI : Hid (bt s i = bt d (i - 1)) := hide (by rw [HBT.out (i - 1)]; congr 1; omega)
          have HE0 : Hid (bt s 1 = bt d 0) := hide (by rw [HBT.out 0])
          by_cases c1 : bt s i < 48
          · skip
            have hr0 := HR.out.cell0
            have hr1 := HR.out.cell1
            have hf0 := HR.out.free 0
            have hf1 := HR.out.free 1
            go_wp2
            refine ret_rat1 rfl w.heap.size _ _ rfl (HR.out.put _ _) rfl ?_
            exact ⟨_, 0, i, rfl, rzero _, .inl ⟨6, i, HRD.out _ 6 (i - 1) (.inr (.inr (.inl ⟨by have := HDS.out; omega, (i - 1), by have := HDS.out; omega, HG.out, fun f => by have := f.lo; have := HEI.out; omega, rfl, rfl, rfl⟩))) (by decide) i (by omega), by decide, rfl, rfl⟩, below_put HB.out (Nat.le_refl _) _ _⟩
          by_cases c2 : 57 < bt s i
          · skip
            have hr0 := HR.out.cell0
            have hr1 := HR.out.cell1
            have hf0 := HR.out.free 0
            have hf1 := HR.out.free 1
            go_wp2
            refine ret_rat1 rfl w.heap.size _ _ rfl (HR.out.put _ _) rfl ?_
            exact ⟨_, 0, i, rfl, rzero _, .inl ⟨6, i, HRD.out _ 6 (i - 1) (.inr (.inr (.inl ⟨by have := HDS.out; omega, (i - 1), by have := HDS.out; omega, HG.out, fun f => by have := f.hi; have := HEI.out; omega, rfl, rfl, rfl⟩))) (by decide) i (by omega), by decide, rfl, rfl⟩, below_put HB.out (Nat.le_refl _) _ _⟩
          by_cases c3 : i = 2 ∧ bt s 1 = 48
          · obtain ⟨c3, c4⟩ := c3
            subst c3
            rw [c4] at hbt
            have hr0 := HR.out.cell0
            have hr1 := HR.out.cell1
            have hf0 := HR.out.free 0
            have hf1 := HR.out.free 1
            go_wp2
            refine ret_rat1 rfl w.heap.size _ _ rfl (HR.out.put _ _) rfl ?_
            exact ⟨_, 0, 2, rfl, rzero _, .inl ⟨6, 2, HRD.out _ 6 (2 - 1) (.inr (.inr (.inl ⟨by have := HDS.out; omega, (2 - 1), by have := HDS.out; omega, HG.out, fun f => f.lead (by omega) (by have := HE0.out; omega), rfl, rfl, rfl⟩))) (by decide) 2 (by omega), by decide, rfl, rfl⟩, below_put HB.out (Nat.le_refl _) _ _⟩
          have HF0 := hide (show Fine d (i - 1) from ⟨by have := HEI.out; omega, by have := HEI.out; omega, fun h1 h2 => by
            have f1 := HG.out 0 (by omega)
            by_cases h3 : i = 2
            · exact c3 ⟨h3, by have := HE0.out; omega⟩
            · exact (HG.out 1 (by omega)).lead (Nat.le_refl _) h2⟩)
          obtain ⟨x, hx⟩ : ∃ x, bt s i = 48 + x := ⟨bt s i - 48, by omega⟩
          have h9 : x ≤ 9 := by omega
          have HX : Hid (nv d (i + 1 - 1) = nv d (i - 1) * 10 + x) := hide (by rw [show i + 1 - 1 = (i - 1) + 1 by omega, nv, ← HEI.out, hx]; omega)
          have HLN := hide (nv_dlen d (i - 1) HG.out (by omega))
          rw [hx] at hb
          by_cases h3 : i = 2
          · subst h3
            have h4' : (((bt s 1 : Nat) : Int) == 48) = false := by rw [beq_eq_false_iff_ne]; intro h4; exact c3 ⟨rfl, by omega⟩
            clear c3 hx
            go_wp2_with fail
            refine wp_calm (fun w' => Below w.heap.size w w' ∧ Box2 w' w.heap.size 54 (.bool false) (.slice none 0 0) ∧ RVar w' (w.heap.size + 1) sb m n c (nv d (2 - 1) : Int)) (fun j => j != 10) 11 #[false, false, false, false, false, false, false, false, false, false, false] (by kernel_rfl) rfl rfl ?_
            have HF := hide (And.intro (HB.out.drew) (And.intro (HR.out.drew) (HV.out.drew)))
            generalize wr.drew = wrd at *
            refine Calm.take (i := 0) (v := ?_) (a' := ?_) (l' := #[true, false, false, false, false, false, false, false, false, false, false]) (d := some 74) rfl (by kernel_rfl) (by kernel_rfl) (by kernel_rfl) (by kernel_rfl) (fun _ _ _ h => h) HF.out rfl ?_ rfl rfl ?_ ?_
            rotate_left
            · intro w' hF; have f10 := hF.2.1.cell0; have f11 := hF.2.1.cell1; have f20 := hF.2.2.box.cell0; have f21 := hF.2.2.box.cell1; clear hF; go_simp; try rfl
            rotate_left
            · simp only [Act.put]; exact rfl
            refine Calm.take (i := 3) (v := ?_) (a' := ?_) (l' := #[true, false, false, true, false, false, false, false, false, false, false]) (d := some 77) rfl (by kernel_rfl) (by kernel_rfl) (by kernel_rfl) (by kernel_rfl) (fun _ _ _ h => h) HF.out rfl ?_ rfl rfl ?_ ?_
            rotate_left
            · intro w' hF; clear hF; go_simp; try rfl
            rotate_left
            · simp only [Act.put]; exact rfl
            refine Calm.take (i := 4) (v := ?_) (a' := ?_) (l' := #[true, false, false, true, true, false, false, false, false, false, false]) (d := some 78) rfl (by kernel_rfl) (by kernel_rfl) (by kernel_rfl) (by kernel_rfl) (fun _ _ _ h => h) HF.out rfl ?_ rfl rfl ?_ ?_
            rotate_left
            · intro w' hF; clear hF; go_simp; try rfl
            rotate_left
            · simp only [Act.put]; exact rfl
            refine Calm.take (i := 5) (v := ?_) (a' := ?_) (l' := #[true, false, false, true, true, true, false, false, false, false, false]) (d := some 79) rfl (by kernel_rfl) (by kernel_rfl) (by kernel_rfl) (by kernel_rfl) (fun _ _ _ h => h) HF.out rfl ?_ rfl rfl ?_ ?_
            rotate_left
            · intro w' hF; clear hF; go_simp; try rfl
            rotate_left
            · simp only [Act.put]; exact rfl
            refine Calm.take (i := 6) (v := ?_) (a' := ?_) (l' := #[true, false, false, true, true, true, true, false, false, false, false]) (d := some 80) rfl (by kernel_rfl) (by kernel_rfl) (by kernel_rfl) (by kernel_rfl) (fun _ _ _ h => h) HF.out rfl ?_ rfl rfl ?_ ?_
            rotate_left
            · intro w' hF; clear hF; go_simp; try rfl
            rotate_left
            · simp only [Act.put]; exact rfl
            refine Calm.take (i := 7) (v := ?_) (a' := ?_) (l' := #[true, false, false, true, true, true, true, true, false, false, false]) (d := some 81) rfl (by kernel_rfl) (by kernel_rfl) (by kernel_rfl) (by kernel_rfl) (fun _ _ _ h => h) HF.out rfl ?_ rfl rfl ?_ ?_
            rotate_left
            · intro w' hF; clear hF; go_simp; try rfl
            rotate_left
            · simp only [Act.put]; exact rfl
            refine Calm.one (i := 1) (l' := #[true, true, false, true, true, true, true, true, false, false, false]) (by kernel_rfl) rfl rfl rfl fun K hK => ?_
            go_simp
            refine (rof_any 10 _ (by decide) (by decide)).mono ?_
            rintro e u1 ⟨v1, rfl, n1, hb⟩
            have HF' := hide (And.intro (HF.out.1.trans ((hb).mono HF.out.1.size)) (And.intro (HF.out.2.1.step (hb)) (HF.out.2.2.step (hb))))
            have T1 := hide (n1)
            refine hK _ _ (fun _ => HF'.out) ?_
            clear hK K HF hb n1
            have HF := hide HF'.out
            clear HF'
            refine Calm.one (i := 2) (l' := #[true, true, true, true, true, true, true, true, false, false, false]) (by kernel_rfl) rfl rfl rfl fun K hK => ?_
            go_simp
            refine (rmul2_any _ _ (nv d (2 - 1) : Int) 10 _ HF.out.2.2.int T1.out HLN.out.1 (by decide)).mono ?_
            rintro e u2 ⟨v2, rfl, n2, hb⟩
            clear T1
            have HF' := hide (And.intro (HF.out.1.trans ((hb).mono HF.out.1.size)) (And.intro (HF.out.2.1.step (hb)) (HF.out.2.2.step (hb))))
            have T2 := hide (n2)
            refine hK _ _ (fun _ => HF'.out) ?_
            clear hK K HF hb n2
            have HF := hide HF'.out
            clear HF'
            refine Calm.one (i := 8) (l' := #[true, true, true, true, true, true, true, true, true, false, false]) (by kernel_rfl) rfl rfl rfl fun K hK => ?_
            go_simp
            rw [dig_wrap64 x h9]
            refine (rof_any (x : Int) _ (by omega) (by omega)).mono ?_
            rintro e u3 ⟨v3, rfl, n3, hb⟩
            replace T2 := hide (T2.out.below (hb))
            have HF' := hide (And.intro (HF.out.1.trans ((hb).mono HF.out.1.size)) (And.intro (HF.out.2.1.step (hb)) (HF.out.2.2.step (hb))))
            have T3 := hide (n3)
            refine hK _ _ (fun _ => HF'.out) ?_
            clear hK K HF hb n3
            have HF := hide HF'.out
            clear HF'
            refine Calm.one (i := 9) (l' := #[true, true, true, true, true, true, true, true, true, true, false]) (by kernel_rfl) rfl rfl rfl fun K hK => ?_
            go_simp
            refine (radd2_any _ _ ((nv d (2 - 1) : Int) * 10) (x : Int) _ T2.out T3.out HLN.out.2 (dig_len x h9)).mono ?_
            rintro e u4 ⟨v4, rfl, n4, hb⟩
            obtain ⟨b4, k4, a4, c4, rfl, m4, e4, z4⟩ := n4
            have n4 : RInt u4 (.agg #[.bool b4, .slice a4 (D.lim k4).length c4]) (((nv d (2 - 1) : Int) * 10) + (x : Int)) := ⟨b4, k4, a4, c4, rfl, m4, e4, z4⟩
            clear T2
            clear T3
            have HF' := hide (And.intro (HF.out.1.trans ((hb).mono HF.out.1.size)) (And.intro (HF.out.2.1.step (hb)) (HF.out.2.2.step (hb))))
            have T4 := hide (n4)
            refine hK _ _ (fun _ => HF'.out) ?_
            clear hK K HF hb n4 m4 e4 z4
            have HF := hide HF'.out
            clear HF'
            refine Calm.one (i := 10) (l' := #[true, true, true, true, true, true, true, true, true, true, true]) (by kernel_rfl) rfl rfl rfl fun K hK => ?_
            have hc0 := HF.out.2.2.box.cell0
            have hc1 := HF.out.2.2.box.cell1
            have hf0 := HF.out.2.2.box.free 0
            have hf1 := HF.out.2.2.box.free 1
            go_simp
            refine hK _ _ (fun h => absurd h (by decide)) ?_
            clear hK K
            refine Calm.done (by kernel_rfl) ?_
            go_wp2
            go_roundw
            case rel => exact ⟨2 + 1, by omega, by omega, by go_num, by rw [show 2 + 1 - 1 = 2 - 1 + 1 by omega]; exact HG.out.succ HF0.out, below_put HF.out.1 (Nat.le_succ _) _ _, HF.out.2.1.other (by omega) _ _, b4, a4, _, c4, ⟨HF.out.2.2.box.put _ _, by rw [HX.out]; have := T4.out.keep (keeps2 HF.out.2.2.box (by simp) (by simp) (.bool b4) (.slice a4 (D.lim k4).length c4)); simpa using this⟩⟩
            case measure => simp [intOf]; omega
          · have h3' : ((i : Int) == 2) = false := by rw [beq_eq_false_iff_ne]; omega
            clear c3 hx h3
            go_wp2_with fail
            refine wp_calm (fun w' => Below w.heap.size w w' ∧ Box2 w' w.heap.size 54 (.bool false) (.slice none 0 0) ∧ RVar w' (w.heap.size + 1) sb m n c (nv d (i - 1) : Int)) (fun j => j != 10) 11 #[false, false, false, false, false, false, false, false, false, false, false] (by kernel_rfl) rfl rfl ?_
            have HF := hide (And.intro (HB.out.drew) (And.intro (HR.out.drew) (HV.out.drew)))
            generalize wr.drew = wrd at *
            refine Calm.take (i := 0) (v := ?_) (a' := ?_) (l' := #[true, false, false, false, false, false, false, false, false, false, false]) (d := some 74) rfl (by kernel_rfl) (by kernel_rfl) (by kernel_rfl) (by kernel_rfl) (fun _ _ _ h => h) HF.out rfl ?_ rfl rfl ?_ ?_
            rotate_left
            · intro w' hF; have f10 := hF.2.1.cell0; have f11 := hF.2.1.cell1; have f20 := hF.2.2.box.cell0; have f21 := hF.2.2.box.cell1; clear hF; go_simp; try rfl
            rotate_left
            · simp only [Act.put]; exact rfl
            refine Calm.take (i := 3) (v := ?_) (a' := ?_) (l' := #[true, false, false, true, false, false, false, false, false, false, false]) (d := some 77) rfl (by kernel_rfl) (by kernel_rfl) (by kernel_rfl) (by kernel_rfl) (fun _ _ _ h => h) HF.out rfl ?_ rfl rfl ?_ ?_
            rotate_left
            · intro w' hF; clear hF; go_simp; try rfl
            rotate_left
            · simp only [Act.put]; exact rfl
            refine Calm.take (i := 4) (v := ?_) (a' := ?_) (l' := #[true, false, false, true, true, false, false, false, false, false, false]) (d := some 78) rfl (by kernel_rfl) (by kernel_rfl) (by kernel_rfl) (by kernel_rfl) (fun _ _ _ h => h) HF.out rfl ?_ rfl rfl ?_ ?_
            rotate_left
            · intro w' hF; clear hF; go_simp; try rfl
            rotate_left
            · simp only [Act.put]; exact rfl
            refine Calm.take (i := 5) (v := ?_) (a' := ?_) (l' := #[true, false, false, true, true, true, false, false, false, false, false]) (d := some 79) rfl (by kernel_rfl) (by kernel_rfl) (by kernel_rfl) (by kernel_rfl) (fun _ _ _ h => h) HF.out rfl ?_ rfl rfl ?_ ?_
            rotate_left
            · intro w' hF; clear hF; go_simp; try rfl
            rotate_left
            · simp only [Act.put]; exact rfl
            refine Calm.take (i := 6) (v := ?_) (a' := ?_) (l' := #[true, false, false, true, true, true, true, false, false, false, false]) (d := some 80) rfl (by kernel_rfl) (by kernel_rfl) (by kernel_rfl) (by kernel_rfl) (fun _ _ _ h => h) HF.out rfl ?_ rfl rfl ?_ ?_
            rotate_left
            · intro w' hF; clear hF; go_simp; try rfl
            rotate_left
            · simp only [Act.put]; exact rfl
            refine Calm.take (i := 7) (v := ?_) (a' := ?_) (l' := #[true, false, false, true, true, true, true, true, false, false, false]) (d := some 81) rfl (by kernel_rfl) (by kernel_rfl) (by kernel_rfl) (by kernel_rfl) (fun _ _ _ h => h) HF.out rfl ?_ rfl rfl ?_ ?_
            rotate_left
            · intro w' hF; clear hF; go_simp; try rfl
            rotate_left
            · simp only [Act.put]; exact rfl
            refine Calm.one (i := 1) (l' := #[true, true, false, true, true, true, true, true, false, false, false]) (by kernel_rfl) rfl rfl rfl fun K hK => ?_
            go_simp
            refine (rof_any 10 _ (by decide) (by decide)).mono ?_
            rintro e u1 ⟨v1, rfl, n1, hb⟩
            have HF' := hide (And.intro (HF.out.1.trans ((hb).mono HF.out.1.size)) (And.intro (HF.out.2.1.step (hb)) (HF.out.2.2.step (hb))))
            have T1 := hide (n1)
            refine hK _ _ (fun _ => HF'.out) ?_
            clear hK K HF hb n1
            have HF := hide HF'.out
            clear HF'
            refine Calm.one (i := 2) (l' := #[true, true, true, true, true, true, true, true, false, false, false]) (by kernel_rfl) rfl rfl rfl fun K hK => ?_
            go_simp
            refine (rmul2_any _ _ (nv d (i - 1) : Int) 10 _ HF.out.2.2.int T1.out HLN.out.1 (by decide)).mono ?_
            rintro e u2 ⟨v2, rfl, n2, hb⟩
            clear T1
            have HF' := hide (And.intro (HF.out.1.trans ((hb).mono HF.out.1.size)) (And.intro (HF.out.2.1.step (hb)) (HF.out.2.2.step (hb))))
            have T2 := hide (n2)
            refine hK _ _ (fun _ => HF'.out) ?_
            clear hK K HF hb n2
            have HF := hide HF'.out
            clear HF'
            refine Calm.one (i := 8) (l' := #[true, true, true, true, true, true, true, true, true, false, false]) (by kernel_rfl) rfl rfl rfl fun K hK => ?_
            go_simp
            rw [dig_wrap64 x h9]
            refine (rof_any (x : Int) _ (by omega) (by omega)).mono ?_
            rintro e u3 ⟨v3, rfl, n3, hb⟩
            replace T2 := hide (T2.out.below (hb))
            have HF' := hide (And.intro (HF.out.1.trans ((hb).mono HF.out.1.size)) (And.intro (HF.out.2.1.step (hb)) (HF.out.2.2.step (hb))))
            have T3 := hide (n3)
            refine hK _ _ (fun _ => HF'.out) ?_
            clear hK K HF hb n3
            have HF := hide HF'.out
            clear HF'
            refine Calm.one (i := 9) (l' := #[true, true, true, true, true, true, true, true, true, true, false]) (by kernel_rfl) rfl rfl rfl fun K hK => ?_
            go_simp
            refine (radd2_any _ _ ((nv d (i - 1) : Int) * 10) (x : Int) _ T2.out T3.out HLN.out.2 (dig_len x h9)).mono ?_
            rintro e u4 ⟨v4, rfl, n4, hb⟩
            obtain ⟨b4, k4, a4, c4, rfl, m4, e4, z4⟩ := n4
            have n4 : RInt u4 (.agg #[.bool b4, .slice a4 (D.lim k4).length c4]) (((nv d (i - 1) : Int) * 10) + (x : Int)) := ⟨b4, k4, a4, c4, rfl, m4, e4, z4⟩
            clear T2
            clear T3
            have HF' := hide (And.intro (HF.out.1.trans ((hb).mono HF.out.1.size)) (And.intro (HF.out.2.1.step (hb)) (HF.out.2.2.step (hb))))
            have T4 := hide (n4)
            refine hK _ _ (fun _ => HF'.out) ?_
            clear hK K HF hb n4 m4 e4 z4
            have HF := hide HF'.out
            clear HF'
            refine Calm.one (i := 10) (l' := #[true, true, true, true, true, true, true, true, true, true, true]) (by kernel_rfl) rfl rfl rfl fun K hK => ?_
            have hc0 := HF.out.2.2.box.cell0
            have hc1 := HF.out.2.2.box.cell1
            have hf0 := HF.out.2.2.box.free 0
            have hf1 := HF.out.2.2.box.free 1
            go_simp
            refine hK _ _ (fun h => absurd h (by decide)) ?_
            clear hK K
            refine Calm.done (by kernel_rfl) ?_
            go_wp2
            go_roundw
            case rel => exact ⟨i + 1, by omega, by omega, by go_num, by rw [show i + 1 - 1 = i - 1 + 1 by omega]; exact HG.out.succ HF0.out, below_put HF.out.1 (Nat.le_succ _) _ _, HF.out.2.1.other (by omega) _ _, b4, a4, _, c4, ⟨HF.out.2.2.box.put _ _, by rw [HX.out]; have := T4.out.keep (keeps2 HF.out.2.2.box (by simp) (by simp) (.bool b4) (.slice a4 (D.lim k4).length c4)); simpa using this⟩⟩
            case measure => simp [intOf]; omega
        · have e : i = s.size := by omega
          subst e
          clear hi1 hi2 hlt
          have hv1 := HV.out.box.cell1
          have hv0 := HV.out.box.cell0
          obtain ⟨b4, k4, a4, c4, e3, m4, e4, z4⟩ := HV.out.int
          simp only [Value.agg.injEq, Array.mk.injEq, List.cons.injEq, Value.bool.injEq, Value.slice.injEq, and_true] at e3
          obtain ⟨rfl, rfl, rfl, rfl⟩ := e3
          have HK : Hid (k4 = nv d d.size) := hide (by have h1 := congrArg Int.natAbs e4; rw [sg_abs, Int.natAbs_natCast, show s.size - 1 = d.size by have := HDS.out; omega] at h1; exact h1.symm)
          have HM := hide m4
          clear m4 e4 z4
          go_wp2_with fail
          refine (rnorm2_any true _ (D.lim k4) _ HM.out (D.ok_lim k4)).mono ?_
          rintro e w2 ⟨v2, rfl, hr2, hb2⟩
          rw [D.val_lim, HK.out] at hr2
          obtain ⟨b5, k5, a5, c5, rfl, m5, e5, z5⟩ := hr2
          replace HR := hide (HR.out.step hb2)
          replace HB := hide (HB.out.trans (hb2.mono HB.out.size))
          have hc0 := HR.out.cell0
          have hc1 := HR.out.cell1
          have hf0 := HR.out.free 0
          have hf1 := HR.out.free 1
          clear hb2 hv0 hv1
          go_wp2
          refine ret_rat1 rfl w.heap.size _ _ rfl (HR.out.put _ _) rfl ?_
          exact ⟨_, _, -1, rfl, ⟨b5, k5, a5, c5, rfl, keeps2 HR.out (by simp) (by simp) _ _ _ _ m5, e5, z5⟩, .inr ⟨HRZ.out (show Good d d.size by have := HG.out; rwa [show s.size - 1 = d.size by have := HDS.out; omega] at this), rfl⟩, below_put HB.out (Nat.le_refl _) _ _⟩
end Go.Proofs.YtdafdfgkfkanjaaDoor

namespace Go.Proofs.YtdafdfgkfkanjaaDoor
open Go.RowKit Go.Shelf
attribute [local go_sem] Oper.semAt_some

/-- the bytes from a place on, up to the first ] -/
def rem (s : ByteArray) (k : Nat) : List UInt8 := ((bl s).drop k).takeWhile (· != 93)
def pcs (s : ByteArray) (k : Nat) : List ByteArray := splB 32 (mkB (rem s k))
theorem bl_get (s : ByteArray) (j : Nat) (h : j < s.size) : ∃ c, (bl s)[j]? = some c ∧ c.toNat = bt s j := by
  refine ⟨s[j], ?_, bt_get s j h⟩
  unfold bl
  rw [List.getElem?_eq_getElem (by rw [← bl_len] at h; exact h)]
  rfl
theorem bl_drop (s : ByteArray) (a t : Nat) (h1 : a ≤ t) (h2 : t ≤ s.size) : (bl s).drop a = bl (s.extract a t) ++ (bl s).drop t := by
  rw [bl_ext]
  conv => lhs; rw [← List.take_append_drop t (bl s)]
  rw [List.drop_append_of_le_length (by rw [List.length_take, bl_len]; omega)]
theorem bl_mem {s : ByteArray} {a t : Nat} (h2 : t ≤ s.size) {c : UInt8} (h : c ∈ bl (s.extract a t)) : ∃ j, a ≤ j ∧ j < t ∧ bt s j = c.toNat := by
  rw [bl_ext] at h
  obtain ⟨i, hi⟩ := List.getElem?_of_mem h
  rw [List.getElem?_drop] at hi
  have hlt := (List.getElem?_eq_some_iff.1 hi).1
  rw [List.length_take, bl_len] at hlt
  rw [List.getElem?_take, if_pos (by omega)] at hi
  obtain ⟨c', h1, h3⟩ := bl_get s (a + i) (by omega)
  rw [h1] at hi
  cases hi
  exact ⟨a + i, by omega, by omega, h3.symm⟩
/-- no blank and no ] between -/
def Clear (s : ByteArray) (a t : Nat) : Prop := ∀ j, a ≤ j → j < t → bt s j ≠ 32 ∧ bt s j ≠ 93
theorem Clear.no {s : ByteArray} {a t : Nat} (h : Clear s a t) (ht : t ≤ s.size) : (32 : UInt8) ∉ bl (s.extract a t) ∧ ∀ c ∈ bl (s.extract a t), (c != 93) = true := by
  constructor
  · intro hm
    obtain ⟨j, h1, h2, h3⟩ := bl_mem ht hm
    exact (h j h1 h2).1 h3
  · intro c hc
    obtain ⟨j, h1, h2, h3⟩ := bl_mem ht hc
    have := (h j h1 h2).2
    simp only [bne_iff_ne, ne_eq]
    rintro rfl
    exact this h3
theorem drop_at {s : ByteArray} {t : Nat} (h : t < s.size) : ∃ c, c.toNat = bt s t ∧ (bl s).drop t = c :: (bl s).drop (t + 1) := by
  obtain ⟨c, h1, h2⟩ := bl_get s t h
  refine ⟨c, h2, ?_⟩
  rw [List.drop_eq_getElem_cons (by rw [bl_len]; exact h), (List.getElem?_eq_some_iff.1 h1).2]
theorem rem_end {s : ByteArray} {a t : Nat} (h1 : a ≤ t) (hc : Clear s a t) (h : t = s.size ∨ (t < s.size ∧ bt s t = 93)) : rem s a = bl (s.extract a t) := by
  have ht : t ≤ s.size := by omega
  unfold rem
  rw [bl_drop s a t h1 ht]
  rw [List.takeWhile_append_of_pos (hc.no ht).2]
  rcases h with rfl | ⟨h, hb⟩
  · rw [List.drop_eq_nil_of_le (by rw [bl_len]; exact Nat.le_refl _)]; simp
  · obtain ⟨c, h2, h3⟩ := drop_at h
    have : c = 93 := UInt8.toNat_inj.1 (by rw [h2, hb]; rfl)
    subst this
    rw [h3]
    simp
theorem pcs_end {s : ByteArray} {a t : Nat} (h1 : a ≤ t) (hc : Clear s a t) (h : t = s.size ∨ (t < s.size ∧ bt s t = 93)) : pcs s a = [s.extract a t] := by
  unfold pcs
  rw [rem_end h1 hc h, mkB_bl]
  exact splB_none (hc.no (by omega)).1
theorem pcs_next {s : ByteArray} {a t : Nat} (h1 : a ≤ t) (hc : Clear s a t) (h : t < s.size) (hb : bt s t = 32) : pcs s a = s.extract a t :: pcs s (t + 1) ∧ (rem s a).length = (t - a) + 1 + (rem s (t + 1)).length := by
  obtain ⟨c, h2, h3⟩ := drop_at h
  have e : c = 32 := UInt8.toNat_inj.1 (by rw [h2, hb]; rfl)
  subst e
  have hr : rem s a = bl (s.extract a t) ++ 32 :: rem s (t + 1) := by
    unfold rem
    rw [bl_drop s a t h1 (by omega), List.takeWhile_append_of_pos (hc.no (by omega)).2, h3]
    simp
  constructor
  · unfold pcs splB
    rw [bl_mkB, bl_mkB, hr, spl_at (hc.no (by omega)).1, List.map_cons, mkB_bl]
  · rw [hr, List.length_append, List.length_cons, bl_len, ByteArray.size_extract]
    omega
theorem tot_few : ∀ ps : List ByteArray, ps.length ≤ tot ps
  | [] => Nat.zero_le _
  | p :: ps => by have := tot_few ps; unfold tot at *; simp only [List.length_cons, List.map_cons, List.sum_cons]; omega
theorem slice2 (s : ByteArray) (a t : Nat) (h1 : a ≤ t) (h2 : t ≤ s.size) (W : World) : (Instr.slice 9 (.string s) (some (.int .i64 (a : Nat))) (some (.int .i64 (t : Nat))) none).run Tryd.prog W = .ok (.string (s.extract a t)) W := by
  have u := run_underlying (P := Tryd.prog) Tryd.underlying9 W
  go_simp
theorem rint_cells {w : World} {v : Value} {z : Int} (h : RInt w v z) : ∃ s m n c, v = .agg #[.bool s, .slice m n c] ∧ RInt w (.agg #[.bool s, .slice m n c]) z := by
  obtain ⟨b, j, a, c, rfl, hx⟩ := h
  exact ⟨b, a, _, c, rfl, b, j, a, c, rfl, hx⟩
/-- what the document's Read answers -/
def RefR (s : ByteArray) (p : Int) (zs : List Int) : Prop :=
  (hp s 91 = false ∧ p = 0) ∨
  (hp s 91 = true ∧ 1 < s.size ∧ bt s 1 = 93 ∧ ((2 < s.size ∧ p = 2) ∨ (s.size = 2 ∧ p = -1 ∧ zs = []))) ∨
  (hp s 91 = true ∧ ¬ (1 < s.size ∧ bt s 1 = 93) ∧ ((∃ pre x a b, pre ++ [x] <+: pcs s 1 ∧ (∃ zs, AllRd pre zs) ∧ IRd x 0 a b ∧ a ≠ 0 ∧ p = ((1 + tot pre + b : Nat) : Int)) ∨
    (∃ zs', AllRd (pcs s 1) zs' ∧ ((1 + (rem s 1).length = s.size ∧ p = (s.size : Int)) ∨ (1 + (rem s 1).length + 1 < s.size ∧ p = ((1 + (rem s 1).length + 1 : Nat) : Int)) ∨ (1 + (rem s 1).length + 1 = s.size ∧ p = -1 ∧ zs = zs')))))

def RfPost (s : ByteArray) (w : World) (e : Ending) (w' : World) : Prop := ∃ v p zs, e = .returned (.tuple #[v, .int .i64 p]) ∧ RefR s p zs ∧ (p = -1 → RInts w' v zs) ∧ Below w.heap.size w w'
set_option maxRecDepth 100000 in
set_option maxHeartbeats 4000000 in
theorem rfread_any (s : ByteArray) (w : World) (hs : s.size ≤ 60000) :
    Calls Tryd.prog 13 #[.string s] w fun e w' => RfPost s w e w' := by
  refine (callsIn_wide (n := 3)).1 ?_
  refine callsIn_of_wp Tryd.func13 rfl trivial ?_ rfl
  simp only [Tryd.ntmps13, List.size_toArray, List.length_cons, List.length_nil, Nat.reduceAdd, Nat.reduceSub, Array.replicate_succ, Array.replicate_zero, List.push_toArray, List.append_toArray, List.nil_append, List.cons_append]
  by_cases hz : s.size = 0
  · gi_wp2
    go_ret2
    exact ⟨_, 0, [], rfl, .inl ⟨by unfold hp; simp [hz], rfl⟩, fun h => by omega, Below.refl _ _⟩
  · have hz0 : 0 < s.size := by omega
    have hzz : ((s.size : Int) == 0) = false := by rw [beq_eq_false_iff_ne]; omega
    have hb0 := bt_get s 0 hz0
    cases hh : hp s 91 with
    | false =>
      have hn : (((bt s 0 : Nat) : Int) != 91) = true := by have h1 : bt s 0 ≠ 91 := hp_no hh hz0; simp; omega
      gi_wp2
      go_ret2
      exact ⟨_, 0, [], rfl, .inl ⟨hh, rfl⟩, fun h => by omega, Below.refl _ _⟩
    | true =>
      have hn : (((bt s 0 : Nat) : Int) != 91) = false := by have := (hp_yes hh).2; rw [this]; rfl
      have HH := hide hh
      obtain ⟨i0, hi0, hq0, hq1, hq2⟩ := info_parts Tryd.infoRB
      clear hh
      by_cases h1 : 1 < s.size
      · have hb1 := bt_get s 1 h1
        have g1 : (1 : Int) < (s.size : Int) := by omega
        by_cases h93 : bt s 1 = 93
        · have e1 : (((bt s 1 : Nat) : Int) == 93) = true := by rw [h93]; rfl
          by_cases h2 : 2 < s.size
          · gi_wp2
            go_ret2
            exact ⟨_, 2, [], rfl, .inr (.inl ⟨HH.out, h1, h93, .inl ⟨h2, rfl⟩⟩), fun h => by omega, Below.refl _ _⟩
          · gi_wp2
            go_ret2
            exact ⟨_, -1, [], rfl, .inr (.inl ⟨HH.out, h1, h93, .inr ⟨by omega, rfl, rfl⟩⟩), fun _ => ⟨_, 0, rfl, Nat.le_refl _, by simp [maxLen], fun h => absurd rfl h⟩, below_alloc _ _⟩
        · have e1 : (((bt s 1 : Nat) : Int) == 93) = false := by simp; omega
          have H1 : Hid (¬ (1 < s.size ∧ bt s 1 = 93)) := hide (fun h => h93 h.2)
          gi_wp2
          gi_loopg [4, 5] s.size (fun k v4 v5 wr => ∃ (pre : List ByteArray) (zs : List Int) (at' : Nat), at' + k = s.size + 1 ∧ v5 = .int .i64 (at' : Nat) ∧ at' = 1 + tot pre ∧ at' ≤ s.size ∧ AllRd pre zs ∧ ListR wr w.heap.size v4 zs ∧ Below w.heap.size w wr ∧ pcs s 1 = pre ++ pcs s at' ∧ at' + (rem s at').length = 1 + (rem s 1).length)
          case atStart => exact ⟨[], [], 1, by omega, rfl, rfl, by omega, AllRd.nil, ListR.nil _ _, Below.refl _ _, by simp, by omega⟩
          case round =>
            obtain ⟨pre, zs, at', hk, rfl, ha, hle, har, hli, hbw, hpc, hrm⟩ := hrel
            have HA := hide ha
            have AR := hide har
            have LI := hide hli
            have HB := hide hbw
            have HP := hide hpc
            have HR := hide hrm
            clear ha har hli hbw hpc hrm
            gi_wp2
            gi_loopg [6] (s.size - at') (fun k2 v6 wr2 => ∃ t : Nat, at' ≤ t ∧ t + k2 = s.size ∧ v6 = .int .i64 (t : Nat) ∧ Clear s at' t ∧ wr2 = wr)
            case atStart => exact ⟨at', Nat.le_refl _, by omega, rfl, fun j h1 h2 => absurd h1 (by omega), rfl⟩
            case round =>
              obtain ⟨t, hat, hk2, rfl, hcl, rfl⟩ := hrel
              have CL := hide hcl
              clear hcl
              by_cases hlt : t < s.size
              · have hbt0 := bt_get s t hlt
                have g0 : (t : Int) < (s.size : Int) := by omega
                by_cases hbt : bt s t = 32
                · have q1 : (((bt s t : Nat) : Int) != 32) = false := by rw [hbt]; rfl
                  have XS : Hid ((s.extract at' t).size ≤ 60000) := hide (by rw [ByteArray.size_extract]; omega)
                  have hts : t ≤ s.size := by omega
                  have hsl := slice2 s at' t hat hts
                  gi_wp2_with fail
                  clear hsl hts
                  refine ⟨trivial, (callsIn_wide.2 (rread2_any (s.extract at' t) _ (by have := XS.out; omega))).mono ?_⟩
                  rintro e y1 ⟨u, z, p, rfl, hi, hr, hb⟩
                  obtain ⟨sb, sm, sn, sc, rfl, hi⟩ := rint_cells hi
                  have RI := hide hi
                  replace HB := hide (HB.out.trans (hb.mono HB.out.size))
                  replace LI := hide (LI.out.below hb)
                  clear hi hb
                  gi_upto_region 13 with fail
                  have b1 := below_alloc y1 (.cells #[.bool sb, .slice sm sn sc] 54)
                  have XB := hide (Box2.new y1 54 (.bool sb) (.slice sm sn sc))
                  have GXY : Hid (w.heap.size ≤ y1.heap.size) := hide HB.out.size
                  replace HB := hide (HB.out.trans (b1.mono HB.out.size))
                  replace LI := hide (LI.out.below b1)
                  replace RI := hide (RI.out.below b1)
                  clear b1
                  generalize y1.alloc (.cells #[.bool sb, .slice sm sn sc] 54) = y2 at *
                  obtain ⟨gx, hgx⟩ : ∃ g, g = y1.heap.size := ⟨_, rfl⟩
                  rw [← hgx] at XB
                  rw [← hgx]
                  clear hgx
                  have PC := hide (pcs_next hat CL.out hlt hbt)
                  rcases hr with ⟨ea, eb, hr, hne, rfl, rfl⟩ | ⟨hr, rfl⟩
                  · have BS : eb ≤ 200000 := by have := hr.bsmall; have := XS.out; omega
                    have RD := hide hr
                    have TT := hide hne
                    clear hr hne
                    gi_wp2
                    go_ret2
                    exact ⟨_, _, [], rfl, .inr (.inr ⟨HH.out, H1.out, .inl ⟨pre, s.extract at' t, ea, eb, by rw [HP.out, PC.out.1]; exact ⟨pcs s (t + 1), by simp⟩, ⟨zs, AR.out⟩, RD.out, TT.out, by rw [← HA.out]; omega⟩⟩), fun h => by omega, HB.out⟩
                  · have RD := hide hr
                    clear hr
                    have al := below_alloc y2 (.cells #[.bool sb, .slice sm sn sc] 54)
                    have TMP := hide (Box2.new y2 54 (.bool sb) (.slice sm sn sc))
                    have LA := hide (LI.out.below al)
                    have IA := hide (RI.out.below al)
                    have BA := hide (HB.out.trans (al.mono HB.out.size))
                    obtain ⟨xs, ho, hx⟩ := LA.out
                    have OO := hide ho
                    have OX := hide hx
                    have LL : Hid (zs.length ≤ 70000) := hide (by have h1 := AR.out.1; have h2 := tot_few pre; have := HA.out; omega)
                    have d0 := XB.out.cell0
                    have d1 := XB.out.cell1
                    clear al ho hx
                    have hq : ((t : Int) == (s.size : Int)) = false := by simp; omega
                    have hbt' := bt_get s t hlt
                    have hbq : (((bt s t : Nat) : Int) == 93) = false := by rw [hbt]; rfl
                    gi_wp2_with (gi_at_builtin; refine wpListIn_app2 _ rfl _ _ 27 rfl w.heap.size 54 i0 Tryd.underlying27 hi0 hq0 hq1 hq2 _ _ _ rfl OO.out y2.heap.size 1 sb sm sn sc rfl TMP.out.cell0 TMP.out.cell1 (by have := LL.out; omega) BA.out.size ?_; intro v' y3 hown hgrow hbl; have LN := hide (ListR.app OO.out OX.out IA.out hown hgrow); have BN := hide (below_grow BA.out hgrow BA.out.size (fun g e => (LA.out.lt e).1)); clear hown hgrow hbl d0 d1)
                    gi_roundg (s.size - t)
                    case measure => omega
                    exact ⟨pre ++ [s.extract at' t], zs ++ [z], t + 1, by omega, by go_num, by rw [tot_app, ByteArray.size_extract]; have := HA.out; omega, by omega, AR.out.app RD.out, LN.out, BN.out, by rw [HP.out, PC.out.1]; simp, by have h1 := HR.out; have h2 := PC.out.2; omega⟩
                · by_cases hbt9 : bt s t = 93
                  · have q1 : (((bt s t : Nat) : Int) != 32) = true := by rw [hbt9]; rfl
                    have q2 : (((bt s t : Nat) : Int) != 93) = false := by rw [hbt9]; rfl
                    have hbt := hbt9
                    have HE : Hid (t = s.size ∨ (t < s.size ∧ bt s t = 93)) := hide (.inr ⟨hlt, hbt9⟩)
                    have XS : Hid ((s.extract at' t).size ≤ 60000) := hide (by rw [ByteArray.size_extract]; omega)
                    have hts : t ≤ s.size := by omega
                    have hsl := slice2 s at' t hat hts
                    gi_wp2_with fail
                    clear hsl hts
                    refine ⟨trivial, (callsIn_wide.2 (rread2_any (s.extract at' t) _ (by have := XS.out; omega))).mono ?_⟩
                    rintro e y1 ⟨u, z, p, rfl, hi, hr, hb⟩
                    obtain ⟨sb, sm, sn, sc, rfl, hi⟩ := rint_cells hi
                    have RI := hide hi
                    replace HB := hide (HB.out.trans (hb.mono HB.out.size))
                    replace LI := hide (LI.out.below hb)
                    clear hi hb
                    gi_upto_region 13 with fail
                    have b1 := below_alloc y1 (.cells #[.bool sb, .slice sm sn sc] 54)
                    have XB := hide (Box2.new y1 54 (.bool sb) (.slice sm sn sc))
                    have GXY : Hid (w.heap.size ≤ y1.heap.size) := hide HB.out.size
                    replace HB := hide (HB.out.trans (b1.mono HB.out.size))
                    replace LI := hide (LI.out.below b1)
                    replace RI := hide (RI.out.below b1)
                    clear b1
                    generalize y1.alloc (.cells #[.bool sb, .slice sm sn sc] 54) = y2 at *
                    obtain ⟨gx, hgx⟩ : ∃ g, g = y1.heap.size := ⟨_, rfl⟩
                    rw [← hgx] at XB
                    rw [← hgx]
                    clear hgx
                    have PC := hide (And.intro (pcs_end hat CL.out HE.out) (rem_end hat CL.out HE.out))
                    rcases hr with ⟨ea, eb, hr, hne, rfl, rfl⟩ | ⟨hr, rfl⟩
                    · have BS : eb ≤ 200000 := by have := hr.bsmall; have := XS.out; omega
                      have RD := hide hr
                      have TT := hide hne
                      clear hr hne
                      gi_wp2
                      go_ret2
                      exact ⟨_, _, [], rfl, .inr (.inr ⟨HH.out, H1.out, .inl ⟨pre, s.extract at' t, ea, eb, by rw [HP.out, PC.out.1]; exact List.prefix_refl _, ⟨zs, AR.out⟩, RD.out, TT.out, by rw [← HA.out]; omega⟩⟩), fun h => by omega, HB.out⟩
                    · have RD := hide hr
                      clear hr
                      have al := below_alloc y2 (.cells #[.bool sb, .slice sm sn sc] 54)
                      have TMP := hide (Box2.new y2 54 (.bool sb) (.slice sm sn sc))
                      have LA := hide (LI.out.below al)
                      have IA := hide (RI.out.below al)
                      have BA := hide (HB.out.trans (al.mono HB.out.size))
                      obtain ⟨xs, ho, hx⟩ := LA.out
                      have OO := hide ho
                      have OX := hide hx
                      have LL : Hid (zs.length ≤ 70000) := hide (by have h1 := AR.out.1; have h2 := tot_few pre; have := HA.out; omega)
                      have d0 := XB.out.cell0
                      have d1 := XB.out.cell1
                      clear al ho hx
                      have hq : ((t : Int) == (s.size : Int)) = false := by simp; omega
                      have hbt' := bt_get s t hlt
                      have hbq : (((bt s t : Nat) : Int) == 93) = true := by rw [hbt]; rfl
                      by_cases hl2 : t + 1 < s.size
                      · gi_wp2_with (gi_at_builtin; refine wpListIn_app2 _ rfl _ _ 27 rfl w.heap.size 54 i0 Tryd.underlying27 hi0 hq0 hq1 hq2 _ _ _ rfl OO.out y2.heap.size 1 sb sm sn sc rfl TMP.out.cell0 TMP.out.cell1 (by have := LL.out; omega) BA.out.size ?_; intro v' y3 hown hgrow hbl; have LN := hide (ListR.app OO.out OX.out IA.out hown hgrow); have BN := hide (below_grow BA.out hgrow BA.out.size (fun g e => (LA.out.lt e).1)); clear hown hgrow hbl d0 d1)
                        go_ret2
                        have hcast : ((t : Int) + 1) = ((1 + (rem s 1).length + 1 : Nat) : Int) := by have h1 := HR.out; have h2 := PC.out.2; rw [h2, bl_len, ByteArray.size_extract] at h1; omega
                        exact ⟨_, _, [], rfl, .inr (.inr ⟨HH.out, H1.out, .inr ⟨zs ++ [z], by rw [HP.out, PC.out.1]; exact AR.out.app RD.out, .inr (.inl ⟨by have h1 := HR.out; have h2 := PC.out.2; rw [h2, bl_len, ByteArray.size_extract] at h1; omega, hcast⟩)⟩⟩), fun h => by omega, BN.out⟩
                      · have hl3 : ¬ ((t : Int) + 1 < (s.size : Int)) := by omega
                        gi_wp2_with (gi_at_builtin; refine wpListIn_app2 _ rfl _ _ 27 rfl w.heap.size 54 i0 Tryd.underlying27 hi0 hq0 hq1 hq2 _ _ _ rfl OO.out y2.heap.size 1 sb sm sn sc rfl TMP.out.cell0 TMP.out.cell1 (by have := LL.out; omega) BA.out.size ?_; intro v' y3 hown hgrow hbl; have LN := hide (ListR.app OO.out OX.out IA.out hown hgrow); have BN := hide (below_grow BA.out hgrow BA.out.size (fun g e => (LA.out.lt e).1)); clear hown hgrow hbl d0 d1)
                        go_ret2
                        refine ⟨v', -1, (zs ++ [z] : List Int), ?_, ?_, ?_, ?_⟩
                        · rfl
                        · exact .inr (.inr ⟨HH.out, H1.out, .inr ⟨zs ++ [z], by rw [HP.out, PC.out.1]; exact AR.out.app RD.out, .inr (.inr ⟨by have h1 := HR.out; have h2 := PC.out.2; rw [h2, bl_len, ByteArray.size_extract] at h1; omega, rfl, rfl⟩)⟩⟩)
                        · exact fun _ => LN.out.rints
                        · exact BN.out
                  · have q1 : (((bt s t : Nat) : Int) != 32) = true := by simp; omega
                    have q2 : (((bt s t : Nat) : Int) != 93) = true := by simp; omega
                    have CN : Hid (Clear s at' (t + 1)) := hide (fun j h1 h2 => by rcases Nat.lt_or_ge j t with h | h; exact CL.out j h1 h; have e : j = t := (by omega); subst e; exact ⟨hbt, hbt9⟩)
                    gi_wp2
                    gi_roundg (s.size - (t + 1))
                    case measure => omega
                    exact ⟨t + 1, by omega, by omega, by go_num, CN.out, rfl⟩
              · have HT : Hid (t = s.size) := hide (by omega)
                have HE : Hid (t = s.size ∨ (t < s.size ∧ bt s t = 93)) := hide (.inl HT.out)
                have g0 : ¬ (t : Int) < (s.size : Int) := by omega
                have XS : Hid ((s.extract at' t).size ≤ 60000) := hide (by rw [ByteArray.size_extract]; omega)
                have hts : t ≤ s.size := by omega
                have hsl := slice2 s at' t hat hts
                gi_wp2_with fail
                clear hsl hts
                refine ⟨trivial, (callsIn_wide.2 (rread2_any (s.extract at' t) _ (by have := XS.out; omega))).mono ?_⟩
                rintro e y1 ⟨u, z, p, rfl, hi, hr, hb⟩
                obtain ⟨sb, sm, sn, sc, rfl, hi⟩ := rint_cells hi
                have RI := hide hi
                replace HB := hide (HB.out.trans (hb.mono HB.out.size))
                replace LI := hide (LI.out.below hb)
                clear hi hb
                gi_upto_region 13 with fail
                have b1 := below_alloc y1 (.cells #[.bool sb, .slice sm sn sc] 54)
                have XB := hide (Box2.new y1 54 (.bool sb) (.slice sm sn sc))
                have GXY : Hid (w.heap.size ≤ y1.heap.size) := hide HB.out.size
                replace HB := hide (HB.out.trans (b1.mono HB.out.size))
                replace LI := hide (LI.out.below b1)
                replace RI := hide (RI.out.below b1)
                clear b1
                generalize y1.alloc (.cells #[.bool sb, .slice sm sn sc] 54) = y2 at *
                obtain ⟨gx, hgx⟩ : ∃ g, g = y1.heap.size := ⟨_, rfl⟩
                rw [← hgx] at XB
                rw [← hgx]
                clear hgx
                have PC := hide (And.intro (pcs_end hat CL.out HE.out) (rem_end hat CL.out HE.out))
                rcases hr with ⟨ea, eb, hr, hne, rfl, rfl⟩ | ⟨hr, rfl⟩
                · have BS : eb ≤ 200000 := by have := hr.bsmall; have := XS.out; omega
                  have RD := hide hr
                  have TT := hide hne
                  clear hr hne
                  gi_wp2
                  go_ret2
                  exact ⟨_, _, [], rfl, .inr (.inr ⟨HH.out, H1.out, .inl ⟨pre, s.extract at' t, ea, eb, by rw [HP.out, PC.out.1]; exact List.prefix_refl _, ⟨zs, AR.out⟩, RD.out, TT.out, by rw [← HA.out]; omega⟩⟩), fun h => by omega, HB.out⟩
                · have RD := hide hr
                  clear hr
                  have al := below_alloc y2 (.cells #[.bool sb, .slice sm sn sc] 54)
                  have TMP := hide (Box2.new y2 54 (.bool sb) (.slice sm sn sc))
                  have LA := hide (LI.out.below al)
                  have IA := hide (RI.out.below al)
                  have BA := hide (HB.out.trans (al.mono HB.out.size))
                  obtain ⟨xs, ho, hx⟩ := LA.out
                  have OO := hide ho
                  have OX := hide hx
                  have LL : Hid (zs.length ≤ 70000) := hide (by have h1 := AR.out.1; have h2 := tot_few pre; have := HA.out; omega)
                  have d0 := XB.out.cell0
                  have d1 := XB.out.cell1
                  clear al ho hx
                  have hq : ((t : Int) == (s.size : Int)) = true := by simp; omega
                  gi_wp2_with (gi_at_builtin; refine wpListIn_app2 _ rfl _ _ 27 rfl w.heap.size 54 i0 Tryd.underlying27 hi0 hq0 hq1 hq2 _ _ _ rfl OO.out y2.heap.size 1 sb sm sn sc rfl TMP.out.cell0 TMP.out.cell1 (by have := LL.out; omega) BA.out.size ?_; intro v' y3 hown hgrow hbl; have LN := hide (ListR.app OO.out OX.out IA.out hown hgrow); have BN := hide (below_grow BA.out hgrow BA.out.size (fun g e => (LA.out.lt e).1)); clear hown hgrow hbl d0 d1)
                  go_ret2
                  exact ⟨_, _, [], rfl, .inr (.inr ⟨HH.out, H1.out, .inr ⟨zs ++ [z], by rw [HP.out, PC.out.1]; exact AR.out.app RD.out, .inl ⟨by have h1 := HR.out; have h2 := PC.out.2; rw [h2, bl_len, ByteArray.size_extract] at h1; omega, by rw [HT.out]⟩⟩⟩), fun h => by omega, BN.out⟩
      · have g1 : ¬ (1 : Int) < (s.size : Int) := by omega
        have H1 : Hid (¬ (1 < s.size ∧ bt s 1 = 93)) := hide (fun h => h1 h.1)
        gi_wp2
        gi_loopg [4, 5] s.size (fun k v4 v5 wr => ∃ (pre : List ByteArray) (zs : List Int) (at' : Nat), at' + k = s.size + 1 ∧ v5 = .int .i64 (at' : Nat) ∧ at' = 1 + tot pre ∧ at' ≤ s.size ∧ AllRd pre zs ∧ ListR wr w.heap.size v4 zs ∧ Below w.heap.size w wr ∧ pcs s 1 = pre ++ pcs s at' ∧ at' + (rem s at').length = 1 + (rem s 1).length)
        case atStart => exact ⟨[], [], 1, by omega, rfl, rfl, by omega, AllRd.nil, ListR.nil _ _, Below.refl _ _, by simp, by omega⟩
        case round =>
          obtain ⟨pre, zs, at', hk, rfl, ha, hle, har, hli, hbw, hpc, hrm⟩ := hrel
          have HA := hide ha
          have AR := hide har
          have LI := hide hli
          have HB := hide hbw
          have HP := hide hpc
          have HR := hide hrm
          clear ha har hli hbw hpc hrm
          gi_wp2
          gi_loopg [6] (s.size - at') (fun k2 v6 wr2 => ∃ t : Nat, at' ≤ t ∧ t + k2 = s.size ∧ v6 = .int .i64 (t : Nat) ∧ Clear s at' t ∧ wr2 = wr)
          case atStart => exact ⟨at', Nat.le_refl _, by omega, rfl, fun j h1 h2 => absurd h1 (by omega), rfl⟩
          case round =>
            obtain ⟨t, hat, hk2, rfl, hcl, rfl⟩ := hrel
            have CL := hide hcl
            clear hcl
            by_cases hlt : t < s.size
            · exact absurd hlt (by have := HA.out; omega)
            · have HT : Hid (t = s.size) := hide (by omega)
              have HE : Hid (t = s.size ∨ (t < s.size ∧ bt s t = 93)) := hide (.inl HT.out)
              have g0 : ¬ (t : Int) < (s.size : Int) := by omega
              have XS : Hid ((s.extract at' t).size ≤ 60000) := hide (by rw [ByteArray.size_extract]; omega)
              have hts : t ≤ s.size := by omega
              have hsl := slice2 s at' t hat hts
              gi_wp2_with fail
              clear hsl hts
              refine ⟨trivial, (callsIn_wide.2 (rread2_any (s.extract at' t) _ (by have := XS.out; omega))).mono ?_⟩
              rintro e y1 ⟨u, z, p, rfl, hi, hr, hb⟩
              obtain ⟨sb, sm, sn, sc, rfl, hi⟩ := rint_cells hi
              have RI := hide hi
              replace HB := hide (HB.out.trans (hb.mono HB.out.size))
              replace LI := hide (LI.out.below hb)
              clear hi hb
              gi_upto_region 13 with fail
              have b1 := below_alloc y1 (.cells #[.bool sb, .slice sm sn sc] 54)
              have XB := hide (Box2.new y1 54 (.bool sb) (.slice sm sn sc))
              have GXY : Hid (w.heap.size ≤ y1.heap.size) := hide HB.out.size
              replace HB := hide (HB.out.trans (b1.mono HB.out.size))
              replace LI := hide (LI.out.below b1)
              replace RI := hide (RI.out.below b1)
              clear b1
              generalize y1.alloc (.cells #[.bool sb, .slice sm sn sc] 54) = y2 at *
              obtain ⟨gx, hgx⟩ : ∃ g, g = y1.heap.size := ⟨_, rfl⟩
              rw [← hgx] at XB
              rw [← hgx]
              clear hgx
              have PC := hide (And.intro (pcs_end hat CL.out HE.out) (rem_end hat CL.out HE.out))
              rcases hr with ⟨ea, eb, hr, hne, rfl, rfl⟩ | ⟨hr, rfl⟩
              · have BS : eb ≤ 200000 := by have := hr.bsmall; have := XS.out; omega
                have RD := hide hr
                have TT := hide hne
                clear hr hne
                gi_wp2
                go_ret2
                exact ⟨_, _, [], rfl, .inr (.inr ⟨HH.out, H1.out, .inl ⟨pre, s.extract at' t, ea, eb, by rw [HP.out, PC.out.1]; exact List.prefix_refl _, ⟨zs, AR.out⟩, RD.out, TT.out, by rw [← HA.out]; omega⟩⟩), fun h => by omega, HB.out⟩
              · have RD := hide hr
                clear hr
                have al := below_alloc y2 (.cells #[.bool sb, .slice sm sn sc] 54)
                have TMP := hide (Box2.new y2 54 (.bool sb) (.slice sm sn sc))
                have LA := hide (LI.out.below al)
                have IA := hide (RI.out.below al)
                have BA := hide (HB.out.trans (al.mono HB.out.size))
                obtain ⟨xs, ho, hx⟩ := LA.out
                have OO := hide ho
                have OX := hide hx
                have LL : Hid (zs.length ≤ 70000) := hide (by have h1 := AR.out.1; have h2 := tot_few pre; have := HA.out; omega)
                have d0 := XB.out.cell0
                have d1 := XB.out.cell1
                clear al ho hx
                have hq : ((t : Int) == (s.size : Int)) = true := by simp; omega
                gi_wp2_with (gi_at_builtin; refine wpListIn_app2 _ rfl _ _ 27 rfl w.heap.size 54 i0 Tryd.underlying27 hi0 hq0 hq1 hq2 _ _ _ rfl OO.out y2.heap.size 1 sb sm sn sc rfl TMP.out.cell0 TMP.out.cell1 (by have := LL.out; omega) BA.out.size ?_; intro v' y3 hown hgrow hbl; have LN := hide (ListR.app OO.out OX.out IA.out hown hgrow); have BN := hide (below_grow BA.out hgrow BA.out.size (fun g e => (LA.out.lt e).1)); clear hown hgrow hbl d0 d1)
                go_ret2
                exact ⟨_, _, [], rfl, .inr (.inr ⟨HH.out, H1.out, .inr ⟨zs ++ [z], by rw [HP.out, PC.out.1]; exact AR.out.app RD.out, .inl ⟨by have h1 := HR.out; have h2 := PC.out.2; rw [h2, bl_len, ByteArray.size_extract] at h1; omega, by rw [HT.out]⟩⟩⟩), fun h => by omega, BN.out⟩
end Go.Proofs.YtdafdfgkfkanjaaDoor

namespace Go.Proofs.YtdafdfgkfkanjaaDoor
open Go.RowKit Go.Shelf

theorem IRd.err4 {s : ByteArray} {z : Int} {a b : Nat} (h : IRd s z a b) (hs : s.size ≤ 400) (ha : a ≠ 0) : a = 6 ∧ z = 0 := by
  rcases h with ⟨h, _, _⟩ | ⟨_, _, _, rfl, rfl, _⟩ | ⟨_, _, xs, c, d, hr, h3⟩
  · omega
  · exact ⟨rfl, rfl⟩
  · rcases h3 with ⟨hc, rfl, rfl, _⟩ | ⟨_, _, h, _⟩
    · have h2 := cutP_size s 45
      rcases hr with ⟨h, _⟩ | ⟨_, _, rfl, _⟩ | ⟨_, i, _, _, _, _, rfl, _⟩ | ⟨_, _, _, _, h, _⟩
      · omega
      · exact ⟨rfl, rfl⟩
      · exact ⟨rfl, rfl⟩
      · exact absurd h hc
    · exact absurd h ha
theorem ird_empty {s : ByteArray} (h : s.size = 0) : IRd s 0 6 0 := by
  have h1 : hp s 45 = false := by unfold hp; simp [h]
  exact .inr (.inr ⟨by omega, by rw [h1]; simp, [], 6, 0, by rw [cutP_no h1]; exact .inr (.inl ⟨h, rfl, rfl, rfl⟩), .inl ⟨by decide, rfl, rfl, by rw [cutP_no h1]; omega⟩⟩)
theorem AllRd.at {ps : List ByteArray} {zs : List Int} (h : AllRd ps zs) {i : Nat} {x : ByteArray} (hx : ps[i]? = some x) : IRd x (zs.getD i 0) 0 0 := by
  have hi := (List.getElem?_eq_some_iff.1 hx).1
  have := h.2 i hi
  rwa [List.getD_eq_getElem?_getD, hx] at this
theorem AllRd.same {ps : List ByteArray} {zs ys : List Int} (h : AllRd ps zs) (k : AllRd ps ys) : zs = ys := by
  apply List.ext_getElem (by rw [h.1, k.1])
  intro i h1 h2
  have hi : i < ps.length := by rw [← h.1]; exact h1
  have e := ((h.2 i hi).same (k.2 i hi)).1
  rw [List.getD_eq_getElem?_getD, List.getElem?_eq_getElem h1, List.getD_eq_getElem?_getD, List.getElem?_eq_getElem h2] at e
  simpa using e
theorem pre_get {ps pre : List ByteArray} {x : ByteArray} (h : pre ++ [x] <+: ps) : ps[pre.length]? = some x ∧ ∀ i, i < pre.length → ps[i]? = pre[i]? := by
  obtain ⟨t, rfl⟩ := h
  refine ⟨by simp, fun i hi => ?_⟩
  rw [List.append_assoc, List.getElem?_append_left hi]
/-- a piece that is none, all ahead being numbers: just one -/
theorem bad_one {ps pre qre : List ByteArray} {x y : ByteArray} {zs ys : List Int} {z u : Int} {a b c d : Nat} (h1 : pre ++ [x] <+: ps) (h2 : AllRd pre zs) (h3 : IRd x z a b) (h4 : a ≠ 0)
    (k1 : qre ++ [y] <+: ps) (k2 : AllRd qre ys) (k3 : IRd y u c d) (k4 : c ≠ 0) : pre = qre ∧ a = c ∧ b = d := by
  obtain ⟨g1, g2⟩ := pre_get h1
  obtain ⟨f1, f2⟩ := pre_get k1
  have hl : pre.length = qre.length := by
    rcases Nat.lt_trichotomy pre.length qre.length with h | h | h
    · have := k2.at (i := pre.length) (x := x) (by rw [← f2 _ h]; exact g1)
      exact absurd (h3.same this).2.1 h4
    · exact h
    · have := h2.at (i := qre.length) (x := y) (by rw [← g2 _ h]; exact f1)
      exact absurd (k3.same this).2.1 k4
  have hx : x = y := by rw [hl, f1] at g1; simpa using g1.symm
  subst hx
  refine ⟨?_, (h3.same k3).2⟩
  apply List.ext_getElem? fun i => ?_
  rcases Nat.lt_or_ge i pre.length with h | h
  · rw [← g2 i h, f2 i (by omega)]
  · rw [List.getElem?_eq_none h, List.getElem?_eq_none (by omega)]
theorem rnum_bad {s : ByteArray} {a0 b0 : Nat} (h : RNumP s a0 b0) (hs : s.size ≠ 0) {pre : List ByteArray} {x : ByteArray} {zs : List Int} {z : Int} {a b : Nat} (h1 : pre ++ [x] <+: splB 32 s) (h2 : AllRd pre zs) (h3 : IRd x z a b) (h4 : a ≠ 0) : a0 = a ∧ b0 = 1 + tot pre + b := by
  rcases h with ⟨h, _⟩ | ⟨_, ⟨ys, hy⟩, _⟩ | ⟨_, qre, y, u, d, k1, ⟨ys, k2⟩, k3, k4, rfl⟩
  · exact absurd h hs
  · exact absurd (h3.same (hy.at (pre_get h1).1)).2.1 h4
  · obtain ⟨rfl, rfl, rfl⟩ := bad_one h1 h2 h3 h4 k1 k2 k3 k4
    exact ⟨rfl, rfl⟩
theorem rnum_all {s : ByteArray} {a0 b0 : Nat} (h : RNumP s a0 b0) (hs : s.size ≠ 0) (hl : s.size ≤ 4000) {zs : List Int} (h2 : AllRd (splB 32 s) zs) : a0 = 0 ∧ b0 = 0 := by
  rcases h with ⟨h, _⟩ | ⟨_, _, rfl, rfl⟩ | ⟨_, qre, y, u, d, k1, _, k3, k4, rfl⟩
  · exact absurd h hs
  · have := spl_few 32 s
    unfold spE spA
    rw [if_pos (by omega), if_pos (by omega)]
    exact ⟨rfl, rfl⟩
  · exact absurd (k3.same (h2.at (pre_get k1).1)).2.1 k4
theorem bl_rest (s : ByteArray) : bl (rest1 s) = (bl s).drop 1 := by unfold rest1; rw [bl_ext, ← bl_len, List.take_length]
theorem take_while {l : List UInt8} {c : UInt8} : (c ∉ l → l.takeWhile (· != c) = l) ∧ ∀ o, l = l.take o ++ c :: l.drop (o + 1) → c ∉ l.take o → l.takeWhile (· != c) = l.take o := by
  have key : ∀ m : List UInt8, c ∉ m → ∀ x ∈ m, (x != c) = true := fun m h x hx => by simp only [bne_iff_ne, ne_eq]; rintro rfl; exact h hx
  constructor
  · intro h
    have := List.takeWhile_append_of_pos (p := (· != c)) (l₁ := l) (l₂ := []) (key l h)
    simpa using this
  · intro o e h
    conv => lhs; rw [e]
    rw [List.takeWhile_append_of_pos (key _ h)]
    simp
/-- the parts of a text by the first ] -/
theorem cut_rem {s : ByteArray} (h : 1 ≤ s.size) : (cutB 93 (rest1 s)).1 = mkB (rem s 1) ∧
    (((cutB 93 (rest1 s)).2.2 = false ∧ 1 + (rem s 1).length = s.size) ∨ ((cutB 93 (rest1 s)).2.2 = true ∧ (cutB 93 (rest1 s)).2.1.size + (rem s 1).length + 2 = s.size ∧ bl s = (bl s).take 1 ++ rem s 1 ++ 93 :: bl (cutB 93 (rest1 s)).2.1)) := by
  unfold cutB rem
  rw [bl_rest]
  have hlen : ((bl s).drop 1).length = s.size - 1 := by rw [List.length_drop, bl_len]
  rcases idx_cases ((bl s).drop 1) 93 with ⟨e, hn⟩ | ⟨o, e, ho, hb, hn⟩
  · rw [e, take_while.1 hn]
    simp only [show ((-1 : Int) < 0) = True from by simp, if_true]
    refine ⟨?_, .inl ⟨by decide, by rw [hlen]; omega⟩⟩
    rw [← bl_rest, mkB_bl]
  · rw [e, take_while.2 o hb hn]
    rw [if_neg (by omega)]
    have e1 : ((o : Int)).toNat = o := by omega
    refine ⟨?_, .inr ⟨rfl, ?_, ?_⟩⟩
    · apply bl_inj
      rw [bl_mkB, bl_ext, bl_rest, List.drop_zero, e1]
    · show ((rest1 s).extract _ _).size + _ + 2 = _
      rw [ByteArray.size_extract, rest1_size, List.length_take, hlen, e1]
      omega
    · show _ = _ ++ 93 :: bl ((rest1 s).extract _ _)
      rw [bl_ext, bl_rest, e1, rest1_size, ← hlen, List.take_length, List.append_assoc, ← hb, List.take_append_drop]
theorem join_spl (c : UInt8) : ∀ l : List UInt8, Lib.join (spl c l) [c] = l
  | [] => rfl
  | b :: l => by
    have h := join_spl c l
    have hne := (spl_tot c l).2
    rw [spl]
    cases hs : spl c l with
    | nil => exact absurd hs hne
    | cons q qs =>
      rw [hs] at h
      split
      · rename_i hb
        subst hb
        rw [show Lib.join ([] :: q :: qs) [b] = b :: Lib.join (q :: qs) [b] from by simp [Lib.join, List.intercalate, List.intersperse], h]
      · cases qs with
        | nil => simp only [Lib.join, List.intercalate, List.intersperse] at h ⊢; simpa using h
        | cons r rs => simp only [Lib.join, List.intercalate, List.intersperse] at h ⊢; simp at h ⊢; exact h
theorem wtxt_bl (zs : List Int) : bl (wtxt zs) = 91 :: (Lib.join (zs.map fun z => (itxt z).data.toList) [32] ++ [93]) := by
  unfold wtxt bl
  simp [ByteArray.data_append]
theorem told_all {ps : List ByteArray} {zs : List Int} (h : AllRd ps zs) : zs.map (fun z => (itxt z).data.toList) = ps.map bl := by
  apply List.ext_getElem (by simp [h.1])
  intro i h1 h2
  simp only [List.length_map] at h1 h2
  have := (h.2 i h2).told.1
  simp only [List.getElem_map]
  rw [List.getD_eq_getElem?_getD, List.getElem?_eq_getElem h1, List.getD_eq_getElem?_getD, List.getElem?_eq_getElem h2] at this
  simp only [Option.getD_some] at this
  show (itxt zs[i]).data.toList = bl ps[i]
  rw [this]
  rfl
theorem map_spl (s : ByteArray) : (splB 32 s).map bl = spl 32 (bl s) := by
  unfold splB
  rw [List.map_map]
  conv => rhs; rw [← List.map_id (spl 32 (bl s))]
  apply List.map_congr_left
  intro p _
  exact bl_mkB p
end Go.Proofs.YtdafdfgkfkanjaaDoor

namespace Go.Proofs.YtdafdfgkfkanjaaDoor
open Go.RowKit Go.Shelf

theorem spl_join {c : UInt8} : ∀ {ps : List (List UInt8)}, ps ≠ [] → (∀ p ∈ ps, c ∉ p) → spl c (Lib.join ps [c]) = ps
  | [], h, _ => absurd rfl h
  | [p], _, h => by rw [Lib.join_one]; exact spl_none (h p (by simp))
  | p :: q :: ps, _, h => by
    have ih := spl_join (c := c) (ps := q :: ps) (by simp) (fun x hx => h x (by simp [hx]))
    rw [show Lib.join (p :: q :: ps) [c] = p ++ c :: Lib.join (q :: ps) [c] from by simp [Lib.join, List.intercalate, List.intersperse], spl_at (h p (by simp)), ih]
theorem join_mem {c : UInt8} : ∀ {ps : List (List UInt8)} {x : UInt8}, x ∈ Lib.join ps [c] → x = c ∨ ∃ p ∈ ps, x ∈ p
  | [], x, h => by simp [Lib.join, List.intercalate] at h
  | [p], x, h => by rw [Lib.join_one] at h; exact .inr ⟨p, by simp, h⟩
  | p :: q :: ps, x, h => by
    rw [show Lib.join (p :: q :: ps) [c] = p ++ c :: Lib.join (q :: ps) [c] from by simp [Lib.join, List.intercalate, List.intersperse]] at h
    rcases List.mem_append.1 h with h | h
    · exact .inr ⟨p, by simp, h⟩
    · rcases List.mem_cons.1 h with rfl | h
      · exact .inl rfl
      · rcases join_mem h with h | ⟨y, hy, h⟩
        · exact .inl h
        · exact .inr ⟨y, by simp [hy], h⟩
theorem join_len {c : UInt8} : ∀ (ps : List (List UInt8)), (Lib.join ps [c]).length ≤ (ps.map fun p => p.length + 1).sum
  | [] => by simp [Lib.join, List.intercalate]
  | [p] => by rw [Lib.join_one]; simp
  | p :: q :: ps => by
    have := join_len (c := c) (q :: ps)
    rw [show Lib.join (p :: q :: ps) [c] = p ++ c :: Lib.join (q :: ps) [c] from by simp [Lib.join, List.intercalate, List.intersperse]]
    simp only [List.length_append, List.length_cons, List.map_cons, List.sum_cons] at this ⊢
    omega
theorem itxt_bytes (z : Int) (c : UInt8) (h : c ∈ bl (itxt z)) : c ≠ 32 ∧ c ≠ 93 := by
  have hb : bl (itxt z) = ((if z < 0 then [45] else []) ++ byts (dec z.natAbs) : List Int).map (fun n : Int => UInt8.ofNat n.toNat) := rfl
  rw [hb] at h
  obtain ⟨n, hn, rfl⟩ := List.mem_map.1 h
  have key : n = 45 ∨ ∃ d : Nat, d ≤ 9 ∧ n = 48 + (d : Int) := by
    rcases List.mem_append.1 hn with h | h
    · split at h
      · exact .inl (by simpa using h)
      · cases h
    · unfold byts at h
      obtain ⟨d, hd, rfl⟩ := List.mem_map.1 h
      exact .inr ⟨d, digs_le _ _ d hd, rfl⟩
  rcases key with rfl | ⟨d, hd, rfl⟩
  · decide
  · have : ∀ d : Fin 10, UInt8.ofNat (48 + ((d : Nat) : Int)).toNat ≠ 32 ∧ UInt8.ofNat (48 + ((d : Nat) : Int)).toNat ≠ 93 := by decide
    exact this ⟨d, by omega⟩
theorem nd_pos (z : Int) : 0 < (itxt z).size := by
  unfold itxt
  rw [strOfNums_size, List.length_append]
  unfold byts
  rw [List.length_map, dec_length]
  omega
theorem text_read {zs : List Int} (hsz : (wtxt zs).size ≤ 65536) (hl : zs.length ≤ 4096) {v : Value} {a b : Nat} {w : World} (h : RowRd (wtxt zs) v a b w) : a = 0 ∧ b = 0 ∧ Ints w v zs := by
  obtain ⟨s, hs⟩ : ∃ s, s = wtxt zs := ⟨_, rfl⟩
  have hb := wtxt_bl zs
  rw [← hs] at hsz h hb
  obtain ⟨J, hJ⟩ : ∃ J, J = Lib.join (zs.map fun z => (itxt z).data.toList) [32] := ⟨_, rfl⟩
  rw [← hJ] at hb
  have hsJ : s.size = J.length + 2 := by rw [← bl_len, hb]; simp
  have hno : ∀ c ∈ J, (c != 93) = true := by
    intro c hc
    rw [hJ] at hc
    rcases join_mem hc with rfl | ⟨p, hp, hc⟩
    · rfl
    · obtain ⟨z, _, rfl⟩ := List.mem_map.1 hp
      simpa using (itxt_bytes z c hc).2
  have hr : rem s 1 = J := by
    unfold rem
    rw [hb, List.drop_succ_cons, List.drop_zero, List.takeWhile_append_of_pos hno]
    simp
  have hh : hp s 91 = true := by
    unfold hp
    obtain ⟨c, h1, h2⟩ := bl_get s 0 (by omega)
    rw [hb] at h1
    simp only [List.getElem?_cons_zero, Option.some.injEq] at h1
    subst h1
    simp [← h2, hsJ]
  obtain ⟨ct, cr⟩ := cut_rem (s := s) (by omega)
  rw [hr] at ct cr
  obtain ⟨q1, q2⟩ : (cutB 93 (rest1 s)).2.2 = true ∧ (cutB 93 (rest1 s)).2.1.size = 0 := by
    rcases cr with ⟨_, h⟩ | ⟨h, h', _⟩
    · omega
    · exact ⟨h, by omega⟩
  have hin : (cutB 93 (rest1 s)).1.size = J.length := by rw [ct, ← bl_len, bl_mkB]
  -- what the pieces are
  have hz : RowZ (cutB 93 (rest1 s)).1 zs := by
    by_cases h0 : zs = []
    · subst h0
      exact .inl ⟨by rw [hin, hJ]; rfl, rfl⟩
    · have hne : zs.map (fun z => (itxt z).data.toList) ≠ [] := by simpa using h0
      have hsp : splB 32 (cutB 93 (rest1 s)).1 = zs.map itxt := by
        rw [ct]
        unfold splB
        rw [bl_mkB, hJ, spl_join hne (fun p hp => by obtain ⟨z, _, rfl⟩ := List.mem_map.1 hp; exact fun h => (itxt_bytes z 32 h).1 rfl), List.map_map]
        apply List.map_congr_left
        intro z _
        exact mkB_bl (itxt z)
      refine .inr ⟨?_, ?_⟩
      · rw [hin]
        have h1 := (spl_tot 32 J).1
        have h2 : spl 32 J = zs.map (fun z => (itxt z).data.toList) := by rw [hJ]; exact spl_join hne (fun p hp => by obtain ⟨z, _, rfl⟩ := List.mem_map.1 hp; exact fun h => (itxt_bytes z 32 h).1 rfl)
        intro hJ0
        obtain ⟨z, l, rfl⟩ : ∃ z l, zs = z :: l := by cases zs with | nil => exact absurd rfl h0 | cons z l => exact ⟨z, l, rfl⟩
        rw [h2, hJ0] at h1
        simp only [List.map_cons, List.sum_cons] at h1
        have h3 : 0 < (itxt z).data.toList.length := by
          have := nd_pos z
          show 0 < (bl (itxt z)).length
          rw [bl_len]
          exact this
        omega
      · rw [hsp]
        refine ⟨by simp, fun i hi => ?_⟩
        rw [List.length_map] at hi
        rw [List.getD_eq_getElem?_getD, List.getElem?_map, List.getElem?_eq_getElem hi, List.getD_eq_getElem?_getD, List.getElem?_eq_getElem hi]
        refine ird_told _ ?_
        have hm : itxt zs[i] ∈ splB 32 (cutB 93 (rest1 s)).1 := by rw [hsp]; exact List.mem_map_of_mem (List.getElem_mem hi)
        have := splB_size hm
        show (itxt zs[i]).size ≤ 65536
        omega
  rcases h with ⟨h, _⟩ | ⟨_, h, _⟩ | ⟨_, _, a0, b0, hn0, hc⟩
  · omega
  · rw [hh] at h; cases h
  · have h0 : a0 = 0 := by
      rcases hz with ⟨hz, _⟩ | ⟨hz, ha⟩
      · rcases hn0 with ⟨_, h, _⟩ | ⟨h, _⟩ | ⟨h, _⟩
        · exact h
        · exact absurd hz h
        · exact absurd hz h
      · rcases hn0 with ⟨h, _⟩ | ⟨_, _, rfl, _⟩ | ⟨_, pre, x, z, d, g1, _, g3, g4, _⟩
        · exact absurd h hz
        · unfold spE; rw [if_pos (by rw [← ha.1]; exact hl)]
        · exact absurd (g3.same (ha.at (pre_get g1).1)).2.1 g4
    subst h0
    rcases hc with ⟨h, _⟩ | ⟨_, q, _⟩ | ⟨_, _, q, _⟩ | ⟨_, q, _⟩ | ⟨_, _, _, rfl, rfl, ys, hy, hi⟩
    · cases h
    · rw [q1] at q; cases q
    · exact absurd q2 q
    · exact absurd rfl q
    · refine ⟨rfl, rfl, ?_⟩
      have : ys = zs := by
        rcases hy with ⟨k, rfl⟩ | ⟨k, hy⟩
        · rcases hz with ⟨_, rfl⟩ | ⟨h, _⟩
          · rfl
          · exact absurd k h
        · rcases hz with ⟨h, _⟩ | ⟨_, ha⟩
          · exact absurd h k
          · exact hy.same ha
      subst this
      exact hi
end Go.Proofs.YtdafdfgkfkanjaaDoor

namespace Go.Proofs.YtdafdfgkfkanjaaDoor
open Go.RowKit

/-- how many numbers and limbs a list has -/
def wt (ns : List (Bool × List Nat)) : Nat := ns.length + (ns.map fun p => p.2.length).sum
theorem sum_take {α : Type} (f : α → Nat) (d : α) : ∀ (l : List α) (i : Nat), i < l.length → ((l.take (i + 1)).map f).sum = ((l.take i).map f).sum + f (l.getD i d)
  | [], i, h => absurd h (by simp)
  | a :: l, 0, _ => by simp
  | a :: l, i + 1, h => by
    have := sum_take f d l i (by simpa using h)
    simp only [List.take_succ_cons, List.map_cons, List.sum_cons, List.getD_cons_succ] at this ⊢
    omega
def LongT (e : Ending) (nss : List (List (Bool × List Nat))) : Prop := ∃ r, e = .returned (.bool r) ∧ (r = false → (nss.map wt).sum ≤ 300)

set_option maxRecDepth 100000 in
set_option maxHeartbeats 8000000 in
theorem rlongT_any (va : Value) (nss : List (List (Bool × List Nat))) (w : World) (h : NumLL w va nss) :
    Calls Tryd.prog 7 #[va] w fun e w' => LongT e nss ∧ w' = w := by
  have HI := hide h
  obtain ⟨a, cap, rfl, hcap, hm, _⟩ := h
  unfold maxLen at hm
  go_enter Tryd.func7, Tryd.ntmps7
  go_wp2
  go_loopw [3, 4, 5] (fun nv iv _ wr => ∃ i n : Nat, i ≤ nss.length ∧ n ≤ 300 ∧ iv = .int .i64 i ∧ nv = .int .i64 n ∧ wr = w ∧ n = ((nss.take i).map wt).sum) (fun _ iv _ _ => nss.length - (intOf iv).toNat)
  case atStart => exact ⟨0, 0, Nat.zero_le _, Nat.zero_le _, rfl, rfl, rfl, rfl⟩
  case round =>
    obtain ⟨i, n, hi, hn, rfl, rfl, hwr, hf⟩ := hrel
    obtain rfl : w = wr := hwr.symm
    clear hwr
    have HF := hide hf
    clear hf
    by_cases hlt : i < nss.length
    · obtain ⟨b, off, rfl, m, l, c, k1, k2, k3, k4, k5⟩ := HI.out.at hlt
      have HN := hide k5
      have HL := hide k2
      clear k5 k2
      by_cases hs : 300 < n + l
      · have hs' : (300 : Int) < (n : Int) + (l : Int) := by omega
        go_wp2
        go_ret
        exact ⟨⟨true, rfl, fun h => by cases h⟩, rfl⟩
      · have hs' : ¬ (300 : Int) < (n : Int) + (l : Int) := by omega
        have HS : Hid (l ≤ 300) := hide (by omega)
        go_wp2
        go_loopw [3, 5] (fun nv kv wr => ∃ k n : Nat, k ≤ l ∧ n ≤ 300 ∧ kv = .int .i64 k ∧ nv = .int .i64 n ∧ wr = w ∧ n = ((nss.take i).map wt).sum + l + (((nss.getD i []).take k).map fun p => p.2.length).sum) (fun _ kv _ => l - (intOf kv).toNat)
        case atStart => exact ⟨0, n + l, Nat.zero_le _, by omega, rfl, by go_num, rfl, by rw [HF.out]; rfl⟩
        case round =>
          obtain ⟨k, n', hk, hn', rfl, rfl, hwr, hf⟩ := hrel
          obtain rfl : w = wr := hwr.symm
          clear hwr
          have HQ := hide hf
          clear hf hs hs'
          by_cases hlt2 : k < l
          · obtain ⟨b2, off2, rfl, s, m2, l2, c2, xs, q1, q2, q3, q4⟩ := HN.out.at (by rw [← HL.out]; exact hlt2)
            have e1 := q2.out
            have LX : Hid (l2 = xs.length ∧ l2 ≤ 140737488355328) := hide (by
              obtain ⟨_, _, _, he, _⟩ := q3
              obtain ⟨_, _, _, _, _, hbd, _⟩ := HN.out
              have h1 := hbd k
              rw [q4] at h1
              simp only [Value.slice.injEq] at he
              obtain ⟨_, rfl, _⟩ := he
              exact ⟨rfl, h1⟩)
            have HX := hide q4
            have hlb := LX.out.2
            clear q1 q2 q3 q4
            by_cases hs2 : 300 < n' + l2
            · have hs3 : (300 : Int) < (n' : Int) + (l2 : Int) := by omega
              go_wp2
              go_ret
              exact ⟨⟨true, rfl, fun h => by cases h⟩, rfl⟩
            · have hs3 : ¬ (300 : Int) < (n' : Int) + (l2 : Int) := by omega
              go_wp2
              go_roundw
              case rel => exact ⟨k + 1, n' + l2, by omega, by omega, by go_num, by go_num, by first | trivial | rfl, by rw [sum_take _ (false, []) _ k (by rw [← HL.out]; exact hlt2), HX.out, HQ.out, LX.out.1]; show _ + xs.length = _ + (_ + xs.length); omega⟩
              case measure => simp [intOf]; omega
          · have e : k = l := by omega
            subst e
            go_wp2
            go_roundw
            case rel => exact ⟨i + 1, n', by omega, hn', by go_num, rfl, by first | trivial | rfl, by rw [sum_take _ [] _ i hlt, HQ.out, HL.out, List.take_length]; unfold wt; omega⟩
            case measure => simp [intOf]; omega
    · have e : i = nss.length := by omega
      subst e
      go_wp2
      go_ret
      exact ⟨⟨false, rfl, fun _ => by have := HF.out; rw [List.take_length] at this; omega⟩, rfl⟩
end Go.Proofs.YtdafdfgkfkanjaaDoor

namespace Go.Proofs.YtdafdfgkfkanjaaDoor
open Go.RowKit Go.Shelf

theorem nd_limbs {xs : List Nat} (h : Ok xs) : nd (val xs) ≤ 10 * xs.length := by
  rcases (nd_spec (val xs)).2 with h0 | h0
  · omega
  · have h1 := val_lt h
    have h2 : BB ^ xs.length ≤ 10 ^ (10 * xs.length) := by rw [Nat.pow_mul]; exact Nat.pow_le_pow_left (by decide) _
    have := (Nat.pow_lt_pow_iff_right (a := 10) (by decide)).1 (Nat.lt_of_le_of_lt h0 (Nat.lt_of_lt_of_le h1 h2))
    omega
theorem sg_amount (b : Bool) (n : Nat) : (sg b n).natAbs = n := by cases b <;> simp [sg]
theorem texts_sum : ∀ {ns : List (Bool × List Nat)}, (∀ p ∈ ns, Ok p.2) → (((numsZ ns).map fun z => (itxt z).data.toList).map fun p => p.length + 1).sum ≤ 10 * (ns.map fun p => p.2.length).sum + 3 * ns.length
  | [], _ => by simp [numsZ]
  | p :: ns, h => by
    have ih := texts_sum (ns := ns) (fun q hq => h q (by simp [hq]))
    have h1 := itxt_size (sg p.1 (val p.2))
    rw [sg_amount] at h1
    have h2 := nd_limbs (h p (by simp))
    have h3 : (itxt (sg p.1 (val p.2))).data.toList.length = (itxt (sg p.1 (val p.2))).size := bl_len _
    simp only [numsZ, List.map_cons, List.sum_cons, List.length_cons] at ih ⊢
    omega
theorem wtxt_small {ns : List (Bool × List Nat)} (hok : ∀ p ∈ ns, Ok p.2) (h : wt ns ≤ 300) : (wtxt (numsZ ns)).size ≤ 65536 := by
  rw [← bl_len, wtxt_bl, List.length_cons, List.length_append]
  have h1 := join_len (c := 32) ((numsZ ns).map fun z => (itxt z).data.toList)
  have h2 := texts_sum hok
  unfold wt at h
  simp only [List.length_singleton]
  omega
theorem le_sum : ∀ {l : List Nat} {x : Nat}, x ∈ l → x ≤ l.sum
  | a :: l, x, h => by
    rcases List.mem_cons.1 h with rfl | h
    · simp
    · have := le_sum h; simp; omega
theorem wt_few {ns : List (Bool × List Nat)} (h : wt ns ≤ 300) : Few ns := by
  unfold wt at h
  refine ⟨by omega, fun q hq => ?_⟩
  have h1 : (ns.getD q (false, [])).2.length ∈ ns.map fun p => p.2.length := by
    rw [List.getD_eq_getElem?_getD, List.getElem?_eq_getElem hq]
    exact List.mem_map.2 ⟨ns[q], List.getElem_mem hq, rfl⟩
  have := le_sum h1
  omega
theorem numl_ok {w : World} {a : Option Addr} {n cap : Nat} {ns : List (Bool × List Nat)} (h : NumL w (.slice a n cap) ns) : ∀ p ∈ ns, Ok p.2 := by
  intro p hp
  obtain ⟨i, hi, rfl⟩ := List.getElem_of_mem hp
  obtain ⟨b, off, _, s, m, l, c, xs, _, _, q3, q4⟩ := h.at hi
  rw [List.getD_eq_getElem?_getD, List.getElem?_eq_getElem hi] at q4
  simp only [Option.getD_some] at q4
  rw [q4]
  exact q3.ok
end Go.Proofs.YtdafdfgkfkanjaaDoor
