/- A statement that leaves its order open: what only reads cells that stay as they are may be done first. Nothing of the program. -/
import Derived.Test.YtheakienigmkhaaPBase
import Derived.Deep.RegionWith
namespace Go.Proofs.Ytheakienigmkhaa
open Go.RowKit

section
variable {P : Program} {md : Region.Mode} {ops : Array Oper} {Q : Exit → Act → World → Prop} {F : World → Prop} {pend : Nat → Bool}

/-- 'wpAny', and each operation but those that 'pend' leaves out ends in a world of which F holds -/
def Calm (P : Program) (md : Region.Mode) (ops : Array Oper) (Q : Exit → Act → World → Prop) (F : World → Prop) (pend : Nat → Bool) : Nat → Array Bool → Act → World → Prop
  | 0, listed, a, w => Region.ready md ops listed = [] ∧ Q .normal a w
  | fuel + 1, listed, a, w => (Region.ready md ops listed = [] → Q .normal a w) ∧
    ∀ i ∈ Region.ready md ops listed, wpOp P ops Q i (fun a' w' => (pend i = true → F w') ∧ Calm P md ops Q F pend fuel (listed.setIfInBounds i true) a' w') a w

theorem Calm.any : ∀ (fuel : Nat) (listed : Array Bool) (a : Act) (w : World), Calm P md ops Q F pend fuel listed a w → wpAny P md ops Q fuel listed a w
  | 0, _, _, _, h => h
  | fuel + 1, _, _, _, h => ⟨h.1, fun i hi => wpOp_mono (fun a' w' k => Calm.any fuel _ a' w' k.2) (h.2 i hi)⟩

/-- an operation that leaves a slot alone goes the same way whether the slot is written ahead of it or behind it; what is known of the frame goes on to be known -/
theorem wpOp_late {j : Nat} {oj : Oper} {x : Option Tmp} {v : Value} {Y : Act → Prop} (hj : ops[j]? = some oj) (h1 : ∀ d, x = some d → d ∉ oj.looksAt ops) (h2 : ∀ d, x = some d → oj.dst ≠ some d)
    (hs : ∀ cs b, oj.op ≠ .select cs b) (hQ : ∀ c a w, Q (.panic c) (a.put x v) w → Q (.panic c) a w)
    (kp : ∀ a u, Y a → Y (a.put oj.dst u)) (kd : ∀ (a : Act) d, Y a → Y { a with defers := d :: a.defers }) {K : Act → World → Prop} {a : Act} {w : World} (hy : Y a)
    (h : wpOp P ops Q j K (a.put x v) w) : wpOp P ops Q j (fun a' w' => Y a' ∧ K (a'.put x v) w') a w := by
  have he : execOp (a.put x v).eval oj = execOp a.eval oj := execOp_put oj hs a x v h1
  have fin : ∀ u w', K ((a.put x v).put oj.dst u) w' → Y (a.put oj.dst u) ∧ K ((a.put oj.dst u).put x v) w' := fun u w' k => ⟨kp a u hy, by rw [← Act.put_comm a v u h2]; exact k⟩
  unfold wpOp at *
  simp only [hj, wanted_put oj a x v h1] at *
  by_cases hw : Region.wanted oj (yielded ops a.tmps) = true
  · rw [if_pos hw] at h ⊢
    rcases h with h | ⟨ha, hl⟩
    · left
      unfold Oper.wp at *
      rw [he] at h
      generalize (execOp a.eval oj).run P w = r at *
      rcases r with ⟨n, w'⟩ | ⟨z, w'⟩
      · cases n <;> simp only [Oper.upon] at h ⊢
        · exact fin _ _ h
        · exact fin _ _ h
        · refine Calls.mono h fun e w'' k => ?_
          cases e
          · exact fin _ _ k
          · exact hQ _ _ _ k
          · exact k
        · refine ⟨kp _ _ (kd a _ hy), ?_⟩
          rw [← Act.put_comm _ v undef h2, ← Act.put_defers]
          exact h
        · exact Rows.mono h fun u w'' k => fin _ _ k
      · cases z <;> simp only [Oper.upon] at h ⊢
        exact hQ _ _ _ h
    · right
      exact ⟨by unfold Oper.asks at *; rw [he] at ha; exact ha, hl⟩
  · rw [if_neg hw] at h ⊢
    exact fin _ _ h

/-- the operation yields v, whatever world it is asked in of which F holds -/
def Gives (P : Program) (ops : Array Oper) (F : World → Prop) (o : Oper) (v : Value) (a : Act) : Prop :=
  (Region.wanted o (yielded ops a.tmps) = true ∧ ∀ w, F w → (execOp a.eval o).run P w = .ok (.value v) w) ∨ (Region.wanted o (yielded ops a.tmps) = false ∧ v = undef)

theorem Gives.wpOp {i : Nat} {o : Oper} {v : Value} {a : Act} {w : World} (hi : ops[i]? = some o) (hy : Gives P ops F o v a) (hF : F w) {K : Act → World → Prop} (h : K (a.put o.dst v) w) : wpOp P ops Q i K a w := by
  unfold Go.wpOp
  simp only [hi]
  rcases hy with ⟨hw, hv⟩ | ⟨hw, rfl⟩
  · rw [if_pos hw]; left; unfold Oper.wp; rw [hv w hF]; exact h
  · rw [if_neg (by rw [hw]; simp)]; exact h

/-- what waits for the operation i is told by 'after'; of all else F is asked -/
def Waits (md : Region.Mode) (ops : Array Oper) (pend : Nat → Bool) (i : Nat) : Bool :=
  (List.range ops.size).all fun j => j == i || pend j || match ops[j]? with
    | some oj => oj.after.any fun e => Region.binds md e && e.on == i
    | none => true

theorem Waits.spec {i : Nat} (h : Waits md ops pend i = true) (j : Nat) (oj : Oper) (hj : ops[j]? = some oj) (hne : j ≠ i) (hno : ∀ e ∈ oj.after, Region.binds md e = true → e.on ≠ i) : pend j = true := by
  have := List.all_eq_true.1 h j (List.mem_range.2 (Array.getElem?_eq_some_iff.1 hj).1)
  simp only [hj, Bool.or_eq_true, beq_iff_eq, hne, false_or] at this
  rcases this with h | h
  · exact h
  · obtain ⟨e, he, hb⟩ := Array.any_eq_true'.1 h
    simp only [Bool.and_eq_true, beq_iff_eq] at hb
    exact absurd hb.2 (hno e he hb.1)

theorem Calm.first {i : Nat} {oi : Oper} {v : Value} (hi : ops[i]? = some oi) (hs : Region.noSelect ops = true) (hw : Waits md ops pend i = true)
    (hQ : ∀ c a w, Q (.panic c) (a.put oi.dst v) w → Q (.panic c) a w) : ∀ (fuel : Nat) (listed : Array Bool) (a : Act) (w : World),
      (∀ j oj, ops[j]? = some oj → j ≠ i → listed.getD j true = false → (∀ e ∈ oj.after, Region.binds md e = true → e.on ≠ i) → oi.apart ops oj = true) →
      i ∈ Region.ready md ops listed → F w → Gives P ops F oi v a → Calm P md ops Q F pend fuel (listed.setIfInBounds i true) (a.put oi.dst v) w → Calm P md ops Q F pend (fuel + 1) listed a w := by
  have hsel := Region.noSelect_spec hs
  intro fuel
  induction fuel with
  | zero =>
    intro listed a w _ hr hF hy H
    refine ⟨fun h => (by rw [h] at hr; cases hr), fun j hj => ?_⟩
    by_cases e : j = i
    · subst e; exact hy.wpOp hi hF ⟨fun _ => hF, H⟩
    · have := ready_mono hj e
      rw [H.1] at this
      cases this
  | succ fuel ih =>
    intro listed a w hfree hr hF hy H
    refine ⟨fun h => (by rw [h] at hr; cases hr), fun j hj => ?_⟩
    by_cases e : j = i
    · subst e; exact hy.wpOp hi hF ⟨fun _ => hF, H⟩
    · obtain ⟨hun, oj, hoj, hall⟩ := mem_ready.1 hj
      have hno : ∀ e ∈ oj.after, Region.binds md e = true → e.on ≠ i := fun e he hb heq => by
        have h1 := hall e he hb
        have h0 := (mem_ready.1 hr).1
        rw [heq] at h1
        rcases Nat.lt_or_ge i listed.size with h' | h'
        · simp [h'] at h0 h1; rw [h0] at h1; cases h1
        · simp [Array.getElem?_eq_none h'] at h1
      obtain ⟨k1, k2, k3⟩ := Oper.apart_spec (hfree j oj hoj e hun hno)
      have same : ∀ (a a' : Act), execOp a'.eval oi = execOp a.eval oi → Region.wanted oi (yielded ops a'.tmps) = Region.wanted oi (yielded ops a.tmps) → Gives P ops F oi v a → Gives P ops F oi v a' := by
        intro a a' h1 h2 h3
        unfold Gives at *
        rw [h1, h2]; exact h3
      have h2 := wpOp_late (x := oi.dst) (v := v) (Y := Gives P ops F oi v) hoj k1 k2 (fun cs b => hsel j oj cs b hoj) hQ
        (fun a u => same _ _ (execOp_put oi (fun cs b => hsel i oi cs b hi) a oj.dst u k3) (wanted_put oi a oj.dst u k3)) (fun a d => same _ _ rfl rfl) hy (H.2 j (ready_mono hj e))
      refine wpOp_mono (fun a' w' h3 => ⟨h3.2.1, ?_⟩) h2
      refine ih (listed.setIfInBounds j true) a' w' (fun k ok hk hki hun' hno' => hfree k ok hk hki ?_ hno') (ready_mono hr (Ne.symm e)) (h3.2.1 (Waits.spec hw j oj hoj e hno)) h3.1 ?_
      · by_cases hjk : j = k
        · subst hjk; exact hun
        · rw [getD_set_ne true hjk] at hun'; exact hun'
      · rw [Array.setIfInBounds_comm _ _ e]; exact h3.2.2

theorem Calm.take {i : Nat} {oi : Oper} {v : Value} {fuel : Nat} {listed : Array Bool} {a : Act} {w : World} (hi : ops[i]? = some oi) (hs : Region.noSelect ops = true) (hw : Waits md ops pend i = true) (hf : Region.free md ops listed i = true)
    (hr : (Region.ready md ops listed).contains i = true) (hQ : ∀ c a w, Q (.panic c) (a.put oi.dst v) w → Q (.panic c) a w) (hF : F w) (hg : Region.wanted oi (yielded ops a.tmps) = true) (hy : ∀ w, F w → (execOp a.eval oi).run P w = .ok (.value v) w)
    {l' : Array Bool} (hl : listed.setIfInBounds i true = l') {d : Option Tmp} (hd : oi.dst = d) {a' : Act} (ha : a.put d v = a') (h : Calm P md ops Q F pend fuel l' a' w) : Calm P md ops Q F pend (fuel + 1) listed a w := by
  subst hl; subst hd; subst ha
  exact Calm.first hi hs hw hQ fuel listed a w (Region.free_spec hi hf) (by simpa using hr) hF (.inl ⟨hg, hy⟩) h

/-- one operation alone may come up -/
theorem Calm.one {i : Nat} {o : Oper} {fuel : Nat} {listed : Array Bool} {a : Act} {w : World} (hr : Region.ready md ops listed = [i]) (ho : ops[i]? = some o) (hg : Region.wanted o (yielded ops a.tmps) = true)
    {l' : Array Bool} (hl : listed.setIfInBounds i true = l') (h : ∀ K : Act → World → Prop, (∀ a' w', (pend i = true → F w') → Calm P md ops Q F pend fuel l' a' w' → K a' w') → Oper.wp P o a w K Q) : Calm P md ops Q F pend (fuel + 1) listed a w := by
  subst hl
  refine ⟨fun e => (by rw [hr] at e; cases e), fun j hj => ?_⟩
  rw [hr, List.mem_singleton] at hj
  subst hj
  unfold wpOp
  simp only [ho]
  rw [if_pos hg]
  exact .inl (h _ fun _ _ h1 h2 => ⟨h1, h2⟩)

/-- two may come up -/
theorem Calm.two {i j : Nat} {o o' : Oper} {fuel : Nat} {listed : Array Bool} {a : Act} {w : World} (hr : Region.ready md ops listed = [i, j]) (ho : ops[i]? = some o) (ho' : ops[j]? = some o') (hg : Region.wanted o (yielded ops a.tmps) = true) (hg' : Region.wanted o' (yielded ops a.tmps) = true)
    {l l' : Array Bool} (hl : listed.setIfInBounds i true = l) (hl' : listed.setIfInBounds j true = l')
    (h : ∀ K : Act → World → Prop, (∀ a' w', (pend i = true → F w') → Calm P md ops Q F pend fuel l a' w' → K a' w') → Oper.wp P o a w K Q)
    (h' : ∀ K : Act → World → Prop, (∀ a' w', (pend j = true → F w') → Calm P md ops Q F pend fuel l' a' w' → K a' w') → Oper.wp P o' a w K Q) : Calm P md ops Q F pend (fuel + 1) listed a w := by
  subst hl; subst hl'
  refine ⟨fun e => (by rw [hr] at e; cases e), fun k hk => ?_⟩
  rw [hr] at hk
  rcases List.mem_cons.1 hk with rfl | hk
  · unfold wpOp
    simp only [ho]
    rw [if_pos hg]
    exact .inl (h _ fun _ _ h1 h2 => ⟨h1, h2⟩)
  · rw [List.mem_singleton] at hk
    subst hk
    unfold wpOp
    simp only [ho']
    rw [if_pos hg']
    exact .inl (h' _ fun _ _ h1 h2 => ⟨h1, h2⟩)

theorem Calm.done {fuel : Nat} {listed : Array Bool} {a : Act} {w : World} (hr : Region.ready md ops listed = []) (h : Q .normal a w) : Calm P md ops Q F pend fuel listed a w := by
  cases fuel with
  | zero => exact ⟨hr, h⟩
  | succ fuel => exact ⟨fun _ => h, fun i hi => by rw [hr] at hi; cases hi⟩

theorem wp_calm {id : Nat} {a : Act} {w : World} (F : World → Prop) (pend : Nat → Bool) (n : Nat) (listed : Array Bool) (hm : P.follows .mixedOrders = true) (hn : ops.size = n) (hl : Array.replicate n false = listed)
    (h : Calm P .any ops Q F pend n listed a w.drew) : (Code.region id ops true).wp P Q a w := by
  subst hn; subst hl
  exact wp_region_any hm (Calm.any _ _ _ _ h)
end
end Go.Proofs.Ytheakienigmkhaa
