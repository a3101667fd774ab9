/- A function that ranges over functions, however often, and answers a truth: the marks that it leaves behind. -/
import Derived.Test.YtphohclnendhmaaDoorPtAll0
namespace Go.Proofs.YtphohclnendhmaaDoor
open Go.RowKit Go.Shelf

theorem boxed_step {W W' : World} {B : Nat} {t : TypeId} {v : Value} (h : Boxed W B t v) (hb : Below W.heap.size W W') : Boxed W' B t v := (hb.block B h.lt).trans h
/-- as bodyPostM, and no panic -/
def postN (n : Nat) (fn : Func) (R : Ending → World → Prop) : Exit → Act → World → Prop
  | .normal, a, w | .ret, a, w => LeavesInM Fence.wide n Tryd.prog fn a.tmps R a.defers .returning w
  | _, _, _ => False
theorem postN_sub {n : Nat} {fn : Func} {R : Ending → World → Prop} (e : Exit) (a : Act) (w : World) (h : postN n fn R e a w) : bodyPostM Fence.wide n Tryd.prog fn R e a w := by
  cases e <;> first | exact h | exact h.elim
set_option maxRecDepth 100000 in
theorem callsIn_marksN {n : Nat} {f : FuncId} {fn : Func} {c : Code} {args : Array Value} {w : World} {R : Ending → World → Prop} (hf : Tryd.prog.funcs[f]? = some fn) (hb : fn.body = some c)
    (h : c.wp Tryd.prog (postN n fn R) { tmps := args ++ Array.replicate (fn.ntmps - args.size) undef, defers := [] } w) : Calls Tryd.prog f args w R :=
  (callsIn_wide (n := n)).1 (callsIn_of_wp_marks hf hb trivial (wpIn_wide.2 (wp_mono h postN_sub)) rfl)
theorem res_bool {fn : Func} {p : Tmp} (h : fn.results = #[.cell p 4]) (tmps : Array Value) (w : World) (g : Nat) (b : Bool) (hp : tmps.getD p undef = .pointer (some ⟨g, 0, none⟩)) (hg : Boxed w g 4 (.bool b)) :
    (results fn tmps).run Tryd.prog w = .ok (.bool b) w := by
  have hp' : tmps[p]?.getD undef = .pointer (some ⟨g, 0, none⟩) := by simpa using hp
  have hc := hg.cell
  simp [results, h, hp', asAddr]
  go_simp
theorem leaves_bool {n : Nat} {fn : Func} {p : Tmp} (h : fn.results = #[.cell p 4]) (tmps : Array Value) (w : World) (g : Nat) (b : Bool) (hp : tmps.getD p undef = .pointer (some ⟨g, 0, none⟩)) :
    ∀ (ds : List Nat) (We : World), Marks ds w.heap.size We → Boxed We g 4 (.bool b) → Below w.heap.size w We → LeavesInM Fence.wide n Tryd.prog fn tmps (fun e w' => e = .returned (.bool b) ∧ Below w.heap.size w w') (mks ds) .returning We
  | [], We, _, hg, hb => ⟨_, res_bool h _ _ g b hp hg, rfl, hb⟩
  | D :: ds, We, hm, hg, hb => by
    have hD := hm.2 D (by simp)
    have hn' := List.nodup_cons.1 hm.1
    have r : g ≠ D := by rintro rfl; have := hD.2; rw [show We.heap[g]? = _ from hg] at this; cases this
    refine ⟨by simp, .inl ⟨_, _, rfl, run_takeDeferred hD.2, leaves_bool h tmps w g b hp ds _ ⟨hn'.2, fun E hE => ⟨(hm.2 E (by simp [hE])).1, ?_⟩⟩ ((World.putObj_heap_other r).trans hg) (hb.trans (belowK_b (w := w) (Nat.le_refl _) We D _ (.deferred none) hD.1 hD.2 rfl rfl))⟩⟩
    exact (World.putObj_heap_other (by rintro rfl; exact hn'.1 hE)).trans (hm.2 E (by simp [hE])).2
/-- all from T on but one block may turn -/
theorem below_own {β : Type} {T C : Nat} {A : World} (h : T ≤ C) (h2 : T ≤ A.heap.size) : OwnFrom C (fun (_ : β) Z => Below T A Z) := fun _ _ _ _ hs hg hr => hs.grown hg (Nat.le_trans h2 hs.size) (fun r e => Nat.le_trans h (hr r e).1)
end Go.Proofs.YtphohclnendhmaaDoor
