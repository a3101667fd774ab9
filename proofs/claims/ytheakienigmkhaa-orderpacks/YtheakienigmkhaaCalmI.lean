/- What is known of a statement outside of all rounds goes on to be known within a round of a range over a function: a region that draws its order, single operations. Nothing of the program. -/
import Derived.Test.YtheakienigmkhaaCalm
import Derived.OrdersIn
import Derived.TacticsInMore
import Derived.RangeFuncCalls
namespace Go.Proofs.Ytheakienigmkhaa
open Go.RowKit

section
variable {P : Program} {md : Region.Mode} {ops : Array Oper} {Q : Act → Prop} {w : World}

/-- the operation yields a value and leaves the world, or is passed over -/
def StepV (P : Program) (ops : Array Oper) (w : World) (i : Nat) (K : Act → Prop) (a : Act) : Prop :=
  match ops[i]? with
  | none => K a
  | some o => if Region.wanted o (yielded ops a.tmps) = true then ∃ v, (execOp a.eval o).run P w = .ok (.value v) w ∧ K (a.put o.dst v) else K (a.put o.dst undef)
def CalmV (P : Program) (md : Region.Mode) (ops : Array Oper) (w : World) (Q : Act → Prop) : Nat → Array Bool → Act → Prop
  | 0, listed, a => Region.ready md ops listed = [] ∧ Q a
  | fuel + 1, listed, a => (Region.ready md ops listed = [] → Q a) ∧ ∀ i ∈ Region.ready md ops listed, StepV P ops w i (CalmV P md ops w Q fuel (listed.setIfInBounds i true)) a

theorem StepV.mono {i : Nat} {K K' : Act → Prop} {a : Act} (h : ∀ a, K a → K' a) (hh : StepV P ops w i K a) : StepV P ops w i K' a := by
  unfold StepV at *
  cases ho : ops[i]? with
  | none => simp only [ho] at hh ⊢; exact h _ hh
  | some o =>
    simp only [ho] at hh ⊢
    split
    · rename_i hw
      rw [if_pos hw] at hh
      obtain ⟨v, h1, h2⟩ := hh
      exact ⟨v, h1, h _ h2⟩
    · rename_i hw
      rw [if_neg hw] at hh
      exact h _ hh
def GivesV (P : Program) (ops : Array Oper) (w : World) (o : Oper) (v : Value) (a : Act) : Prop :=
  (Region.wanted o (yielded ops a.tmps) = true ∧ (execOp a.eval o).run P w = .ok (.value v) w) ∨ (Region.wanted o (yielded ops a.tmps) = false ∧ v = undef)
theorem GivesV.step {i : Nat} {o : Oper} {v : Value} {a : Act} (hi : ops[i]? = some o) (hy : GivesV P ops w o v a) {K : Act → Prop} (h : K (a.put o.dst v)) : StepV P ops w i K a := by
  unfold StepV
  simp only [hi]
  rcases hy with ⟨hw, hv⟩ | ⟨hw, rfl⟩
  · rw [if_pos hw]; exact ⟨v, hv, h⟩
  · rw [if_neg (by rw [hw]; simp)]; exact h
/-- an operation that leaves a slot alone goes the same way whether the slot is written ahead of it or behind it -/
theorem StepV.late {j : Nat} {oj : Oper} {x : Option Tmp} {v : Value} {Y : Act → Prop} (hj : ops[j]? = some oj) (h1 : ∀ d, x = some d → d ∉ oj.looksAt ops) (h2 : ∀ d, x = some d → oj.dst ≠ some d)
    (hs : ∀ cs b, oj.op ≠ .select cs b) (kp : ∀ a u, Y a → Y (a.put oj.dst u)) {K : Act → Prop} {a : Act} (hy : Y a)
    (h : StepV P ops w j K (a.put x v)) : StepV P ops w j (fun a' => Y a' ∧ K (a'.put x v)) a := by
  have he : execOp (a.put x v).eval oj = execOp a.eval oj := execOp_put oj hs a x v h1
  have fin : ∀ u, K ((a.put x v).put oj.dst u) → Y (a.put oj.dst u) ∧ K ((a.put oj.dst u).put x v) := fun u k => ⟨kp a u hy, by rw [← Act.put_comm a v u h2]; exact k⟩
  unfold StepV at *
  simp only [hj, wanted_put oj a x v h1, he] at *
  split
  · rename_i hw
    rw [if_pos hw] at h
    obtain ⟨u, g1, g2⟩ := h
    exact ⟨u, g1, fin u g2⟩
  · rename_i hw
    rw [if_neg hw] at h
    exact fin _ h
theorem CalmV.first {i : Nat} {oi : Oper} {v : Value} (hi : ops[i]? = some oi) (hs : Region.noSelect ops = true) : ∀ (fuel : Nat) (listed : Array Bool) (a : Act),
      (∀ j oj, ops[j]? = some oj → j ≠ i → listed.getD j true = false → (∀ e ∈ oj.after, Region.binds md e = true → e.on ≠ i) → oi.apart ops oj = true) →
      i ∈ Region.ready md ops listed → GivesV P ops w oi v a → CalmV P md ops w Q fuel (listed.setIfInBounds i true) (a.put oi.dst v) → CalmV P md ops w Q (fuel + 1) listed a := by
  have hsel := Region.noSelect_spec hs
  intro fuel
  induction fuel with
  | zero =>
    intro listed a _ hr hy H
    refine ⟨fun h => (by rw [h] at hr; cases hr), fun j hj => ?_⟩
    by_cases e : j = i
    · subst e; exact hy.step hi H
    · have := ready_mono hj e
      rw [H.1] at this
      cases this
  | succ fuel ih =>
    intro listed a hfree hr hy H
    refine ⟨fun h => (by rw [h] at hr; cases hr), fun j hj => ?_⟩
    by_cases e : j = i
    · subst e; exact hy.step hi H
    · obtain ⟨hun, oj, hoj, hall⟩ := mem_ready.1 hj
      have hno : ∀ e ∈ oj.after, Region.binds md e = true → e.on ≠ i := fun e he hb heq => by
        have h1 := hall e he hb
        have h0 := (mem_ready.1 hr).1
        rw [heq] at h1
        rcases Nat.lt_or_ge i listed.size with h' | h'
        · simp [h'] at h0 h1; rw [h0] at h1; cases h1
        · simp [Array.getElem?_eq_none h'] at h1
      obtain ⟨k1, k2, k3⟩ := Oper.apart_spec (hfree j oj hoj e hun hno)
      have same : ∀ (a a' : Act), execOp a'.eval oi = execOp a.eval oi → Region.wanted oi (yielded ops a'.tmps) = Region.wanted oi (yielded ops a.tmps) → GivesV P ops w oi v a → GivesV P ops w oi v a' := by
        intro a a' h1 h2 h3
        unfold GivesV at *
        rw [h1, h2]; exact h3
      have h2 := StepV.late (x := oi.dst) (v := v) (Y := GivesV P ops w oi v) hoj k1 k2 (fun cs b => hsel j oj cs b hoj)
        (fun a u => same _ _ (execOp_put oi (fun cs b => hsel i oi cs b hi) a oj.dst u k3) (wanted_put oi a oj.dst u k3)) hy (H.2 j (ready_mono hj e))
      refine StepV.mono (fun a' h3 => ?_) h2
      refine ih (listed.setIfInBounds j true) a' (fun k ok hk hki hun' hno' => hfree k ok hk hki ?_ hno') (ready_mono hr (Ne.symm e)) h3.1 ?_
      · by_cases hjk : j = k
        · subst hjk; exact hun
        · rw [getD_set_ne true hjk] at hun'; exact hun'
      · rw [Array.setIfInBounds_comm _ _ e]; exact h3.2
theorem CalmV.take {i : Nat} {oi : Oper} {v : Value} {fuel : Nat} {listed : Array Bool} {a : Act} (hi : ops[i]? = some oi) (hs : Region.noSelect ops = true) (hf : Region.free md ops listed i = true)
    (hr : (Region.ready md ops listed).contains i = true) (hg : Region.wanted oi (yielded ops a.tmps) = true) (hy : (execOp a.eval oi).run P w = .ok (.value v) w)
    {l' : Array Bool} (hl : listed.setIfInBounds i true = l') {d : Option Tmp} (hd : oi.dst = d) {a' : Act} (ha : a.put d v = a') (h : CalmV P md ops w Q fuel l' a') : CalmV P md ops w Q (fuel + 1) listed a := by
  subst hl; subst hd; subst ha
  exact CalmV.first hi hs fuel listed a (Region.free_spec hi hf) (by simpa using hr) (.inl ⟨hg, hy⟩) h
theorem CalmV.skip {i : Nat} {oi : Oper} {fuel : Nat} {listed : Array Bool} {a : Act} (hi : ops[i]? = some oi) (hs : Region.noSelect ops = true) (hf : Region.free md ops listed i = true)
    (hr : (Region.ready md ops listed).contains i = true) (hg : Region.wanted oi (yielded ops a.tmps) = false)
    {l' : Array Bool} (hl : listed.setIfInBounds i true = l') {d : Option Tmp} (hd : oi.dst = d) {a' : Act} (ha : a.put d undef = a') (h : CalmV P md ops w Q fuel l' a') : CalmV P md ops w Q (fuel + 1) listed a := by
  subst hl; subst hd; subst ha
  exact CalmV.first hi hs fuel listed a (Region.free_spec hi hf) (by simpa using hr) (.inr ⟨hg, rfl⟩) h
theorem CalmV.done {fuel : Nat} {listed : Array Bool} {a : Act} (hr : Region.ready md ops listed = []) (h : Q a) : CalmV P md ops w Q fuel listed a := by
  cases fuel with
  | zero => exact ⟨hr, h⟩
  | succ fuel => exact ⟨fun _ => h, fun i hi => by rw [hr] at hi; cases hi⟩
def noDefer (ops : Array Oper) : Bool := ops.toList.all fun o => match o.op with | .defer _ => false | _ => true
theorem noDefer_spec (h : noDefer ops = true) {i : Nat} {o : Oper} (hi : ops[i]? = some o) : ∀ c, o.op ≠ .defer c := by
  intro c e
  have hm : o ∈ ops.toList := by rw [← Array.getElem?_toList] at hi; exact List.mem_of_getElem? hi
  have := List.all_eq_true.1 h o hm
  rw [e] at this
  cases this
theorem CalmV.any {l n : Nat} {Q' : Exit → Act → World → Prop} (hd : noDefer ops = true) (hQ : ∀ a, Q a → Q' .normal a w) : ∀ (fuel : Nat) (listed : Array Bool) (a : Act), CalmV P md ops w Q fuel listed a → wpAnyIn (Fence.wide.inRound l) n P md ops Q' fuel listed a w := by
  intro fuel
  induction fuel with
  | zero => intro listed a h; exact ⟨h.1, hQ _ h.2⟩
  | succ fuel ih =>
    intro listed a h
    refine ⟨fun e => hQ _ (h.1 e), fun i hi => ?_⟩
    have hs := h.2 i hi
    unfold StepV at hs
    unfold wpOpIn
    cases ho : ops[i]? with
    | none => simp only [ho] at hs ⊢; exact ih _ _ hs
    | some o =>
      simp only [ho] at hs ⊢
      split
      · rename_i hw
        rw [if_pos hw] at hs
        obtain ⟨v, h1, h2⟩ := hs
        unfold Oper.wpIn
        refine ⟨fun _ _ => trivial, ?_⟩
        rw [Fence.inRound_round, Oper.semAt_some _ _ _ (noDefer_spec hd ho), h1]
        exact ih _ _ h2
      · rename_i hw
        rw [if_neg hw] at hs
        exact ⟨fun _ _ => trivial, ih _ _ hs⟩
theorem wp_calmV {id l m n : Nat} {a : Act} {Q' : Exit → Act → World → Prop} (hm : P.follows .mixedOrders = true) (hd : noDefer ops = true) (hn : ops.size = n) {listed : Array Bool} (hl : Array.replicate n false = listed)
    (h : CalmV P .any ops w.drew (fun a => Q' .normal a w.drew) n listed a) : (Code.region id ops true).wpIn (Fence.wide.inRound l) m P Q' a w := by
  subst hn; subst hl
  exact wpIn_region_any hm (CalmV.any hd (fun _ h => h) _ _ _ h)
end
end Go.Proofs.Ytheakienigmkhaa

namespace Go.Proofs.Ytheakienigmkhaa
open Go.RowKit

section
variable {P : Program} {md : Region.Mode} {ops : Array Oper} {Q : Exit → Act → World → Prop}
theorem rowsIn_round {l n : Nat} {row : String} {args : Array Value} {w : World} {R : Value → World → Prop} (h : Rows P row args w R) : RowsIn (Fence.wide.inRound l) n P row args w R := by
  intro c cs _
  obtain ⟨v, w', r, s⟩ := h c cs
  exact ⟨v, w', r, stepsIn_wide.2 s⟩
theorem opIn_of {l n : Nat} {o : Oper} {a : Act} {w : World} {K : Act → World → Prop} (hd : ∀ c, o.op ≠ .defer c) (h : o.wp P a w K Q) : o.wpIn (Fence.wide.inRound l) n P a w K Q := by
  refine ⟨fun _ _ => trivial, ?_⟩
  rw [Fence.inRound_round, Oper.semAt_eq _ _ _ hd]
  unfold Oper.wp at h
  generalize (execOp a.eval o).run P w = r at *
  cases r with
  | ok x w' =>
    cases x <;> simp only [Oper.upon, Oper.uponIn] at h ⊢ <;>
      first
        | exact h
        | exact ⟨(fun e => by cases e), CallsIn.inRound l (callsIn_wide.2 h)⟩
        | exact ⟨(fun e => by cases e), rowsIn_round h⟩
  | halt x w' => cases x <;> simp only [Oper.upon, Oper.uponIn] at h ⊢ <;> exact h
theorem opsIn_of {l n : Nat} (hd : noDefer ops = true) (hL : LetsOut Q → False) {i : Nat} {K : Act → World → Prop} {a : Act} {w : World} (h : wpOp P ops Q i K a w) : wpOpIn (Fence.wide.inRound l) n P ops Q i K a w := by
  unfold wpOp at h
  unfold wpOpIn
  cases ho : ops[i]? with
  | none => simp only [ho] at h ⊢; exact h
  | some o =>
    simp only [ho] at h ⊢
    split
    · rename_i hw
      rw [if_pos hw] at h
      rcases h with h | ⟨_, h⟩
      · exact opIn_of (noDefer_spec hd ho) h
      · exact (hL h).elim
    · rename_i hw
      rw [if_neg hw] at h
      exact ⟨fun _ _ => trivial, h⟩
theorem anyIn_of {l n : Nat} (hd : noDefer ops = true) (hL : LetsOut Q → False) : ∀ (fuel : Nat) (listed : Array Bool) (a : Act) (w : World), wpAny P md ops Q fuel listed a w → wpAnyIn (Fence.wide.inRound l) n P md ops Q fuel listed a w
  | 0, _, _, _, h => h
  | fuel + 1, _, _, _, h => ⟨h.1, fun i hi => wpOpIn_mono (fun a w k => anyIn_of hd hL fuel _ a w k) (opsIn_of hd hL (h.2 i hi))⟩
theorem wp_calmI {id l m : Nat} {a : Act} {w : World} (F : World → Prop) (pend : Nat → Bool) (n : Nat) (listed : Array Bool) (hm : P.follows .mixedOrders = true) (hn : ops.size = n) (hl : Array.replicate n false = listed)
    (hd : noDefer ops = true) (hL : LetsOut Q → False) (h : Calm P .any ops Q F pend n listed a w.drew) : (Code.region id ops true).wpIn (Fence.wide.inRound l) m P Q a w := by
  subst hn; subst hl
  exact wpIn_region_any hm (anyIn_of hd hL _ _ _ _ (Calm.any _ _ _ _ h))
end
end Go.Proofs.Ytheakienigmkhaa
