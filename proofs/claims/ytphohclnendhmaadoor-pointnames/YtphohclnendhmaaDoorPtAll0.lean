/- point.ofHeight answers its iterator; what such an iterator answers, as its caller asks it; marks of ranges that are through. -/
import Derived.Test.YtphohclnendhmaaDoorPtLaw
import Derived.Sort.CutIn
import Derived.RegionTactic
import Derived.Deep.Cut
import Derived.Sort.LoopGhostIn
namespace Go.Proofs.YtphohclnendhmaaDoor
open Go.RowKit Go.Shelf
attribute [local go_sem] Oper.semAt_some

theorem yield_at {m k l : Nat} {args : Array Value} {W : World} {R : Ending → World → Prop} (h : YieldAt Fence.wide m Tryd.prog l args W R) : YieldAt Fence.wide k Tryd.prog l args W R := by
  obtain ⟨fn, tmps, asg, bdy, hy, h1, h2⟩ := h
  exact ⟨fn, tmps, asg, bdy, hy, h1, fun c cs _ => h2 c cs (fun d e => by cases e)⟩
theorem yield_in {m k l r : Nat} {args : Array Value} {W : World} {R : Ending → World → Prop} (h : YieldAt Fence.wide m Tryd.prog l args W R) : YieldAt (Fence.wide.inRound r) k Tryd.prog l args W R := by
  obtain ⟨fn, tmps, asg, bdy, hy, h1, h2⟩ := h
  exact ⟨fn, tmps, asg, bdy, hy, h1, fun c cs _ => h2 c cs (fun d e => by cases e)⟩
theorem own_belowF {β : Type} {B : Nat} {I : β → World → Prop} (h : OwnFrom B I) {s : β} {W V : World} (hs : I s W) (hb : Below W.heap.size W V) : I s V :=
  h s W V none hs ⟨hb.os, hb.tape, hb.output, hb.size, fun k hk _ => hb.block k hk⟩ (fun r e => by cases e)
/-- what a round of the caller keeps: the blocks that the iterator reads, and all from B on -/
def KA (lo hi B : Nat) (U V : World) : Prop := Keeps lo hi U V ∧ U.heap.size ≤ V.heap.size ∧ ∀ k, B ≤ k → k < U.heap.size → V.heap[k]? = U.heap[k]?
theorem KA.trans {lo hi B : Nat} {X Y Z : World} (h : KA lo hi B X Y) (k : KA lo hi B Y Z) : KA lo hi B X Z :=
  ⟨h.1.trans k.1, Nat.le_trans h.2.1 k.2.1, fun i h1 h2 => (k.2.2 i h1 (Nat.lt_of_lt_of_le h2 h.2.1)).trans (h.2.2 i h1 h2)⟩
theorem KA.below {lo hi B : Nat} {X Y : World} (hb : Below X.heap.size X Y) (hs : hi ≤ X.heap.size) : KA lo hi B X Y :=
  ⟨fun i _ h2 => hb.block i (by omega), hb.size, fun i _ h2 => hb.block i h2⟩
/-- marks of ranges that are through -/
def mks (ds : List Nat) : List Deferred := ds.map fun D => { target := .collected D, args := #[] }
def Marks (ds : List Nat) (B : Nat) (w : World) : Prop := ds.Nodup ∧ ∀ D ∈ ds, B ≤ D ∧ w.heap[D]? = some (.deferred (some []))
theorem Marks.keeps {ds : List Nat} {B : Nat} {U V : World} (h : Marks ds B U) (k : KeepsFrom B U V) : Marks ds B V := ⟨h.1, fun D hD => ⟨(h.2 D hD).1, k.same D _ (h.2 D hD).1 (h.2 D hD).2 rfl⟩⟩
theorem Marks.below {ds : List Nat} {B : Nat} {U V : World} (h : Marks ds B U) (k : Below U.heap.size U V) : Marks ds B V := ⟨h.1, fun D hD => ⟨(h.2 D hD).1, (k.block D (Array.getElem?_eq_some_iff.1 (h.2 D hD).2).1).trans (h.2 D hD).2⟩⟩
theorem Marks.lt {ds : List Nat} {B : Nat} {U : World} (h : Marks ds B U) : ∀ D ∈ ds, D < U.heap.size := fun D hD => (Array.getElem?_eq_some_iff.1 (h.2 D hD).2).1
theorem Marks.cons {ds : List Nat} {B D : Nat} {U : World} (h : Marks ds B U) (hB : B ≤ D) (hD : U.heap[D]? = some (.deferred (some []))) (hn : ∀ E ∈ ds, E < D) : Marks (D :: ds) B U :=
  ⟨List.nodup_cons.2 ⟨fun hm => by have := hn D hm; omega, h.1⟩, fun E hE => by
    rcases List.mem_cons.1 hE with rfl | hE
    · exact ⟨hB, hD⟩
    · exact h.2 E hE⟩
theorem marks_own {β : Type} {ds : List Nat} {B C : Nat} (h : ∀ D ∈ ds, D < C) : OwnFrom C (fun (_ : β) Z => Marks ds B Z) := fun _ X Y row hs hg hr =>
  ⟨hs.1, fun D hD => ⟨(hs.2 D hD).1, (hg.block D (Array.getElem?_eq_some_iff.1 (hs.2 D hD).2).1 (fun e => by have := (hr D e.symm).1; have := h D hD; omega)).trans (hs.2 D hD).2⟩⟩
theorem leaves_own {n : Nat} {fn : Func} {tmps : Array Value} {R : Ending → World → Prop} {β : Type} {B : Nat} {I : β → World → Prop} (hI : OwnFrom B I) (s : β) (hres : fn.results = #[]) (hR : ∀ V, I s V → R (.returned (.tuple #[])) V) :
    ∀ (ds : List Nat) (W : World), Marks ds B W → I s W → LeavesInM Fence.wide n Tryd.prog fn tmps R (mks ds) .returning W
  | [], W, _, h => ⟨_, results_none hres _ _ _, hR W h⟩
  | D :: ds, W, hm, h => by
    have hD := hm.2 D (by simp)
    have hn' := List.nodup_cons.1 hm.1
    refine ⟨by simp, .inl ⟨_, _, rfl, run_takeDeferred hD.2, leaves_own hI s hres hR ds _ ⟨hn'.2, fun E hE => ⟨(hm.2 E (by simp [hE])).1, ?_⟩⟩ (hI.putObj _ h hD.1 hD.2 rfl)⟩⟩
    exact (World.putObj_heap_other (by rintro rfl; exact hn'.1 hE)).trans (hm.2 E (by simp [hE])).2
theorem bodyPostM_marks {n : Nat} {fn : Func} {R : Ending → World → Prop} {β : Type} {B : Nat} {I : β → World → Prop} (hI : OwnFrom B I) (s : β) (hres : fn.results = #[]) (hR : ∀ V, I s V → R (.returned (.tuple #[])) V) {a : Act} {w : World} {ds : List Nat} (hd : a.defers = mks ds) (hm : Marks ds B w) (h : I s w) : bodyPostM Fence.wide n Tryd.prog fn R .ret a w := by
  show LeavesInM Fence.wide n Tryd.prog fn a.tmps R a.defers .returning w
  rw [hd]
  exact leaves_own hI s hres hR ds w hm h
theorem bodyPostM_marksN {n : Nat} {fn : Func} {R : Ending → World → Prop} {β : Type} {B : Nat} {I : β → World → Prop} (hI : OwnFrom B I) (s : β) (hres : fn.results = #[]) (hR : ∀ V, I s V → R (.returned (.tuple #[])) V) {a : Act} {w : World} {ds : List Nat} (hd : a.defers = mks ds) (hm : Marks ds B w) (h : I s w) : bodyPostM Fence.wide n Tryd.prog fn R .normal a w := by
  show LeavesInM Fence.wide n Tryd.prog fn a.tmps R a.defers .returning w
  rw [hd]
  exact leaves_own hI s hres hR ds w hm h
theorem bodyPostM_none {n : Nat} {fn : Func} {R : Ending → World → Prop} {a : Act} {w : World} (h : fn.results = #[]) (hR : R (.returned (.tuple #[])) w) (hd : a.defers = [] := by rfl) : bodyPostM Fence.wide n Tryd.prog fn R .ret a w := by
  show LeavesInM Fence.wide n Tryd.prog fn a.tmps R a.defers .returning w
  rw [hd]
  exact ⟨_, results_none h _ _ _, hR⟩
theorem allQ_len2 (m : Nat) : 2 ≤ (allQ m).length := by simp [allQ]
theorem allQ_pre (k : Nat) : ∀ j, allQ k <+: allQ (k + j)
  | 0 => List.prefix_refl _
  | j + 1 => (allQ_pre k j).trans ⟨_, (allQ_succ (k + j)).symm⟩
theorem allQ_in {k m : Nat} (h : k < m) {pre : List (Int × Int)} (hp : pre <+: hgtQ (k + 1) (k + 1)) : allQ k ++ pre <+: allQ m := by
  have h1 := allQ_pre (k + 1) (m - (k + 1))
  rw [show k + 1 + (m - (k + 1)) = m from by omega, allQ_succ] at h1
  exact ((List.prefix_append_right_inj _).2 hp).trans h1
theorem allQ_lt {k m : Nat} (h : k < m) {pre : List (Int × Int)} (hp : pre.length < (hgtQ (k + 1) (k + 1)).length) : (allQ k ++ pre).length < (allQ m).length := by
  have h1 := (allQ_in h (List.prefix_refl _)).length_le
  simp only [List.length_append] at h1 ⊢
  omega

set_option maxRecDepth 100000 in
theorem ofh_any (h : Int) (w : World) : Calls Tryd.prog 22 #[.int .i64 h] w fun e w' => ∃ bx, e = .returned (.func (.func 37) #[] #[.pointer (some ⟨bx, 0, none⟩)]) ∧ w.heap.size ≤ bx ∧ Boxed w' bx 3 (.int .i64 h) ∧ Below w.heap.size w w' := by
  go_enter Tryd.func22, Tryd.ntmps22
  have hb := below_alloc w (.cells #[.int .i64 h] 3)
  have BX := Boxed.new w 3 (.int .i64 h)
  go_wp2
  go_ret
  exact ⟨w.heap.size, rfl, Nat.le_refl _, BX, hb⟩

theorem ofh_stops (n : Nat) (hn : 1 ≤ n) (bx lo hi h : Nat) (h1 : 1 ≤ h) (h16 : h ≤ 16) (hx1 : lo ≤ bx) (hx2 : bx < hi) (w : World) (hs : hi ≤ w.heap.size) (hc : w.cell? ⟨bx, 0, none⟩ = some (.int .i64 h)) :
    SeqStopsK Fence.wide n Tryd.prog 37 #[.pointer (some ⟨bx, 0, none⟩)] ptE (Keeps lo hi) (fun ys => ys = hgtQ h h) (fun pre => pre <+: hgtQ h h) (hgtQ h h).length w := by
  intro l J Jx W hb hJ hJx hY h0
  exact ofh_in n hn l bx lo hi h h1 h16 hx1 hx2 J Jx W.heap.size hJ hY W ((World.cell?_of_block (hb.block bx (by omega))).trans hc) (Nat.le_trans hs hb.size) h0

/-- what stands while a height is gone through -/
def inI (J : List (Int × Int) → World → Prop) (k : Nat) (ds : List Nat) (lo hi B gY C : Nat) (W : World) (t : TypeId) (v : Value) (pre : List (Int × Int)) (Z : World) : Prop :=
  J (allQ k ++ pre) Z ∧ KA lo hi B W Z ∧ Boxed Z gY t v ∧ Marks ds B Z ∧ C ≤ Z.heap.size
def inX (Jx : List (Int × Int) → World → Prop) (k : Nat) (ds : List Nat) (B : Nat) (c : Code) (pre : List (Int × Int)) (Z : World) : Prop :=
  c = .exit 0 ∧ Jx (allQ k ++ pre) Z ∧ Marks ds B Z
theorem own_up {β : Type} {B C : Nat} {I : β → World → Prop} (h : OwnFrom B I) (hBC : B ≤ C) : OwnFrom C I := fun s X Y row hs hg hr => h s X Y row hs hg (fun r e => ⟨Nat.le_trans hBC (hr r e).1, (hr r e).2⟩)
theorem own_map {α β : Type} {B : Nat} {I : β → World → Prop} (f : α → β) (h : OwnFrom B I) : OwnFrom B (fun s => I (f s)) := fun s X Y row hs hg hr => h (f s) X Y row hs hg hr
theorem own_KA {β : Type} {lo hi B C : Nat} {W : World} (h1 : hi ≤ W.heap.size) (h2 : W.heap.size ≤ C) : OwnFrom C (fun (_ : β) Z => KA lo hi B W Z) := fun _ X Y row hs hg hr =>
  ⟨fun i q1 q2 => (hg.block i (by have := hs.2.1; omega) (fun e => by have := (hr i e.symm).1; omega)).trans (hs.1 i q1 q2), Nat.le_trans hs.2.1 hg.size,
   fun i q1 q2 => (hg.block i (by have := hs.2.1; omega) (fun e => by have := (hr i e.symm).1; omega)).trans (hs.2.2 i q1 q2)⟩
theorem own_size {β : Type} {C D : Nat} : OwnFrom C (fun (_ : β) Z => D ≤ Z.heap.size) := fun _ _ _ _ hs hg _ => Nat.le_trans hs hg.size
theorem inI_own {J : List (Int × Int) → World → Prop} {k : Nat} {ds : List Nat} {lo hi gY C : Nat} {W : World} {t : TypeId} {v : Value} (hJ : OwnFrom W.heap.size J) (h1 : hi ≤ W.heap.size) (h2 : W.heap.size ≤ C) (hd : ∀ D ∈ ds, D < C) :
    OwnFrom C (inI J k ds lo hi W.heap.size gY C W t v) :=
  OwnFrom.and (own_map (fun pre => allQ k ++ pre) (own_up hJ h2)) (OwnFrom.and (own_KA h1 h2) (OwnFrom.and (Go.Own.from (boxed_own _ _ (fun _ => v)) _) (OwnFrom.and (marks_own hd) own_size)))
theorem inX_own {Jx : List (Int × Int) → World → Prop} {k : Nat} {ds : List Nat} {B C : Nat} {c : Code} (hJ : OwnFrom B Jx) (h2 : B ≤ C) (hd : ∀ D ∈ ds, D < C) : OwnFrom C (inX Jx k ds B c) :=
  OwnFrom.and (ownFrom_pure _ _) (OwnFrom.and (own_map (fun pre => allQ k ++ pre) (own_up hJ h2)) (marks_own hd))
/-- the frame of a round of the inner range -/
theorem axP_own {B : Nat} (a' : Act) (f : Nat → Act) (p : Int × Int) : OwnFrom B (fun (_ : Unit) W => ∃ gx, a' = f gx ∧ Box2 W gx 27 (.int .i64 p.1) (.int .i64 p.2)) := fun _ W W' row ⟨gx, e, h⟩ hg hr =>
  ⟨gx, e, (hg.block gx h.lt (fun e1 => by obtain ⟨_, o, ho, hc⟩ := hr gx e1.symm; rw [show W.heap[gx]? = _ from h] at ho; cases ho; cases hc)).trans h⟩
end Go.Proofs.YtphohclnendhmaaDoor
