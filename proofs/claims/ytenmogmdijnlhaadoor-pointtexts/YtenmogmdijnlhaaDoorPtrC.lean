/- A pointer to a new block of cells: what is known of it while a statement is done by facts (RegG). -/
import Derived.Test.YtenmogmdijnlhaaDoorCalm
import Derived.Test.YtenmogmdijnlhaaDoorIMade
import Derived.Test.YtenmogmdijnlhaaDoorCalm3
namespace Go.Proofs.YtenmogmdijnlhaaDoor
open Go.RowKit

section
variable {P : Program} {md : Region.Mode} {ops : Array Oper} {Q : Exit → Act → World → Prop}

/-- how many are left -/
def left (listed : Array Bool) : Nat := listed.toList.count false
theorem left_less {listed : Array Bool} {i : Nat} (h : listed.getD i true = false) : left (listed.setIfInBounds i true) + 1 = left listed := by
  have hi : i < listed.size := by
    rcases Nat.lt_or_ge i listed.size with h1 | h1
    · exact h1
    · rw [Array.getD_eq_getD_getElem?, Array.getElem?_eq_none h1] at h; cases h
  have he : listed.toList[i]'(by simpa using hi) = false := by
    rw [Array.getD_eq_getD_getElem?, Array.getElem?_eq_getElem hi] at h
    simpa using h
  unfold left
  rw [Array.toList_setIfInBounds, List.count_set (by simpa using hi), he]
  have : 0 < listed.toList.count false := List.count_pos_iff.2 (by rw [← he]; exact List.getElem_mem _)
  show listed.toList.count false - 1 + 0 + 1 = listed.toList.count false
  omega
/-- THE LAW: what I says of the operations that are done holds on, whichever is done next -/
theorem wpAny_inv (I : Array Bool → Act → World → Prop)
    (step : ∀ listed a w i, I listed a w → i ∈ Region.ready md ops listed → wpOp P ops Q i (I (listed.setIfInBounds i true)) a w)
    (fin : ∀ listed a w, I listed a w → Region.ready md ops listed = [] → Q .normal a w) :
    ∀ (fuel : Nat) (listed : Array Bool) (a : Act) (w : World), left listed ≤ fuel → I listed a w → wpAny P md ops Q fuel listed a w
  | 0, listed, a, w, hl, hI => by
    have hr : Region.ready md ops listed = [] := by
      cases h : Region.ready md ops listed with
      | nil => rfl
      | cons i r =>
        have := left_less (mem_ready.1 (show i ∈ Region.ready md ops listed by rw [h]; simp)).1
        omega
    exact ⟨hr, fin listed a w hI hr⟩
  | fuel + 1, listed, a, w, hl, hI => ⟨fin listed a w hI, fun i hi => wpOp_mono (fun a' w' h => wpAny_inv I step fin fuel _ a' w' (by have := left_less (mem_ready.1 hi).1; omega) h) (step listed a w i hI hi)⟩
theorem wp_inv {id : Nat} {a : Act} {w : World} (I : Array Bool → Act → World → Prop) (hm : P.follows .mixedOrders = true) (h0 : I (Array.replicate ops.size false) a w.drew)
    (step : ∀ listed a w i, I listed a w → i ∈ Region.ready .any ops listed → wpOp P ops Q i (I (listed.setIfInBounds i true)) a w)
    (fin : ∀ listed a w, I listed a w → Region.ready .any ops listed = [] → Q .normal a w) : (Code.region id ops true).wp P Q a w :=
  wp_region_any hm (wpAny_inv I step fin _ _ _ _ (by unfold left; rw [Array.toList_replicate, List.count_replicate]; simp) h0)
end
end Go.Proofs.YtenmogmdijnlhaaDoor

namespace Go.Proofs.YtenmogmdijnlhaaDoor
open Go.RowKit

/-- one more is done; one more slot is written -/
def updL (L : Nat → Bool) (i : Nat) : Nat → Bool := fun j => cond (Nat.beq j i) true (L j)
def updT (T : Nat → Value) (d : Option Nat) (v : Value) : Nat → Value :=
  match d with
  | some d => fun s => cond (Nat.beq s d) v (T s)
  | none => T
structure EvT (ev : Operand → Value) (T : Nat → Value) : Prop where
  tmp : ∀ t, ev (.tmp t) = T t
  const : ∀ v, ev (.const v) = v
  glob : ∀ g, ev (.global g) = .pointer (some ⟨g, 0, none⟩)
  func : ∀ f, ev (.func f) = .func (.func f) #[] #[]
def AllL (L : Nat → Bool) : List Nat → Prop
  | [] => True
  | j :: r => L j = true ∧ AllL L r
theorem AllL.of {L : Nat → Bool} : ∀ {l : List Nat}, (∀ j ∈ l, L j = true) → AllL L l
  | [], _ => trivial
  | _ :: _, h => ⟨h _ (List.mem_cons_self), AllL.of fun j hj => h j (List.mem_cons_of_mem _ hj)⟩
def NoneL (L : Nat → Bool) : List Nat → Prop
  | [] => True
  | j :: r => L j = false ∧ NoneL L r
theorem NoneL.of {L : Nat → Bool} : ∀ {l : List Nat}, (∀ j ∈ l, L j = false) → NoneL L l
  | [], _ => trivial
  | _ :: _, h => ⟨h _ (List.mem_cons_self), NoneL.of fun j hj => h j (List.mem_cons_of_mem _ hj)⟩
theorem clash {b : Bool} {p : Prop} (h0 : b = false) (h : b = true) : p := by rw [h0] at h; cases h
/-- what an operation waits for at first hand; and by whatever way round -/
def direct (ops : Array Oper) (i : Nat) : List Nat :=
  match ops[i]? with
  | some o => (o.after.toList.filter (Region.binds .any)).map (·.on)
  | none => []
def ancs (ops : Array Oper) : Nat → List Nat → List Nat
  | 0, l => l
  | k + 1, l => ancs ops k (l.foldl (fun acc j => (direct ops j).foldl (fun acc x => cond (acc.contains x) acc (x :: acc)) acc) l)
def Dn (ops : Array Oper) (L : Nat → Bool) : Prop := ∀ j, L j = true → ∀ x ∈ direct ops j, L x = true
theorem push_in {L : Nat → Bool} : ∀ (m : List Nat) (acc : List Nat), (∀ x ∈ m, L x = true) → (∀ x ∈ acc, L x = true) → ∀ x ∈ m.foldl (fun acc x => cond (acc.contains x) acc (x :: acc)) acc, L x = true
  | [], _, _, h => h
  | y :: r, acc, hm, h => by
    refine push_in r _ (fun x hx => hm x (List.mem_cons_of_mem _ hx)) fun x hx => ?_
    change x ∈ cond (acc.contains y) acc (y :: acc) at hx
    cases hc : acc.contains y
    · rw [hc] at hx
      rcases List.mem_cons.1 hx with rfl | hx
      · exact hm _ List.mem_cons_self
      · exact h x hx
    · rw [hc] at hx; exact h x hx
theorem step_in {ops : Array Oper} {L : Nat → Bool} (hd : Dn ops L) : ∀ (m acc : List Nat), (∀ x ∈ m, L x = true) → (∀ x ∈ acc, L x = true) →
    ∀ x ∈ m.foldl (fun acc j => (direct ops j).foldl (fun acc x => cond (acc.contains x) acc (x :: acc)) acc) acc, L x = true
  | [], _, _, h => h
  | y :: r, _, hm, h => step_in hd r _ (fun x hx => hm x (List.mem_cons_of_mem _ hx)) (push_in _ _ (hd y (hm y List.mem_cons_self)) h)
theorem ancs_in {ops : Array Oper} {L : Nat → Bool} (hd : Dn ops L) : ∀ (k : Nat) (l : List Nat), (∀ x ∈ l, L x = true) → ∀ x ∈ ancs ops k l, L x = true
  | 0, _, h => h
  | k + 1, l, h => ancs_in hd k _ (step_in hd l l h h)

section
variable {P : Program} {ops : Array Oper} {Q : Exit → Act → World → Prop} {J : (Nat → Bool) → (Nat → Value) → World → Prop}
/-- what is asked of one operation -/
def StepAt (P : Program) (ops : Array Oper) (Q : Exit → Act → World → Prop) (J : (Nat → Bool) → (Nat → Value) → World → Prop) (i : Nat) : Prop :=
  ∀ o, ops[i]? = some o → ∀ (L : Nat → Bool) (T : Nat → Value) (w : World) (ev : Operand → Value) (a : Act), EvT ev T → Dn ops L → L i = false → (∀ x ∈ direct ops i, L x = true) → J L T w →
    ∀ next : Act → World → Prop, (∀ v w', J (updL L i) (updT T o.dst v) w' → next (a.put o.dst v) w') → o.upon P a next Q ((execOp ev o).run P w)
theorem StepAt.of {i k : Nat} {o : Oper} {need later : List Nat} {d : Option Nat} (ho : ops[i]? = some o) (hd : o.dst = d) (hn : need.all (ancs ops k (direct ops i)).contains = true) (hl : later.all (fun j => (ancs ops k (direct ops j)).contains i) = true)
    (h : ∀ (L : Nat → Bool) (T : Nat → Value) (w : World) (ev : Operand → Value) (a : Act), EvT ev T → L i = false → AllL L need → NoneL L later → J L T w →
      ∀ next : Act → World → Prop, (∀ v w', J (updL L i) (updT T d v) w' → next (a.put d v) w') → o.upon P a next Q ((execOp ev o).run P w)) : StepAt P ops Q J i := by
  intro o' ho' L T w ev a he hdn hli hdir hJ next hnext
  rw [ho] at ho'; cases ho'; subst hd
  refine h L T w ev a he hli (AllL.of fun j hj => ?_) (NoneL.of fun j hj => ?_) hJ next hnext
  · have := List.all_eq_true.1 hn j hj
    exact ancs_in hdn k _ hdir j (by simpa using this)
  · cases hj' : L j with
    | false => rfl
    | true =>
      have := List.all_eq_true.1 hl j hj
      have := ancs_in hdn k _ (hdn j hj') i (by simpa using this)
      rw [hli] at this; cases this
/-- an order in which all can be done -/
def okOrd (ops : Array Oper) : List Nat → List Nat → Bool
  | _, [] => true
  | done, j :: r => (j < ops.size) && (direct ops j).all done.contains && okOrd ops (j :: done) r
theorem all_done {listed : Array Bool} (hs : listed.size = ops.size) (hr : Region.ready .any ops listed = []) : ∀ (r done : List Nat), okOrd ops done r = true → (∀ j ∈ done, listed.getD j false = true) → ∀ j ∈ r, listed.getD j false = true
  | [], _, _, _ => fun j hj => by cases hj
  | x :: r, done, hok, hd => by
    simp only [okOrd, Bool.and_eq_true, decide_eq_true_eq] at hok
    have hx : listed.getD x false = true := by
      cases hl : listed.getD x false with
      | true => rfl
      | false =>
        have hlt : x < listed.size := by rw [hs]; exact hok.1.1
        have : x ∈ Region.ready .any ops listed := mem_ready.2 ⟨by
          rw [Array.getD_eq_getD_getElem?, Array.getElem?_eq_getElem hlt] at hl ⊢; simpa using hl, ops[x]'hok.1.1, Array.getElem?_eq_getElem _, fun e he hb => ?_⟩
        · rw [hr] at this; cases this
        · have hmem : e.on ∈ direct ops x := by
            unfold direct
            rw [Array.getElem?_eq_getElem hok.1.1]
            exact List.mem_map.2 ⟨e, List.mem_filter.2 ⟨Array.mem_toList_iff.2 he, hb⟩, rfl⟩
          have := List.all_eq_true.1 hok.1.2 _ hmem
          exact hd _ (by simpa using this)
    intro j hj
    rcases List.mem_cons.1 hj with rfl | hj
    · exact hx
    · exact all_done hs hr r (x :: done) hok.2 (fun k hk => by (rcases List.mem_cons.1 hk with rfl | hk); exact hx; exact hd k hk) j hj
/-- THE LAW -/
theorem wp_facts {id : Nat} {tm0 : Array Value} {ds : List Deferred} {w : World} (J : (Nat → Bool) → (Nat → Value) → World → Prop) (n : Nat) (D ord : List Nat) (hm : P.follows .mixedOrders = true) (hn : tm0.size = n)
    (hD : ops.all (fun o => o.guard.isNone && match o.dst with | some d => D.contains d && (d < n) | none => true) = true) (ho : okOrd ops [] ord = true)
    (h0 : J (fun _ => false) (fun s => tm0.getD s undef) w.drew)
    (step : ∀ i, i < ops.size → StepAt P ops Q J i)
    (fin : ∀ (L : Nat → Bool) (a : Act) (w : World), AllL L ord → J L (fun s => a.tmps.getD s undef) w → a.tmps.size = n → a.defers = ds → (∀ s, s ∉ D → a.tmps.getD s undef = tm0.getD s undef) → Q .normal a w) :
    (Code.region id ops true).wp P Q ⟨tm0, ds⟩ w := by
  refine wp_inv (fun listed a w => listed.size = ops.size ∧ a.tmps.size = n ∧ a.defers = ds ∧ (∀ s, s ∉ D → a.tmps.getD s undef = tm0.getD s undef) ∧ Dn ops (fun j => listed.getD j false) ∧ J (fun j => listed.getD j false) (fun s => a.tmps.getD s undef) w) hm ?_ ?_ ?_
  · have hz : (fun j => (Array.replicate ops.size false).getD j false) = fun _ => false := by
      funext j
      rcases Nat.lt_or_ge j ops.size with h | h
      · rw [Array.getD_eq_getD_getElem?, Array.getElem?_eq_getElem (by simpa using h)]; simp
      · rw [Array.getD_eq_getD_getElem?, Array.getElem?_eq_none (by simpa using h)]; rfl
    refine ⟨by simp, hn, rfl, fun _ _ => rfl, ?_, ?_⟩
    · rw [hz]; intro j hj; cases hj
    · rw [hz]; exact h0
  · rintro listed a w i ⟨hls, hsz, hds, hfr, hdn, hJ⟩ hi
    obtain ⟨hun, o, hoi, hall⟩ := mem_ready.1 hi
    have hlt : i < ops.size := (Array.getElem?_eq_some_iff.1 hoi).1
    have hDo := Array.all_eq_true_iff_forall_mem.1 hD o (Array.mem_of_getElem? hoi)
    rw [Bool.and_eq_true] at hDo
    have hdir : ∀ x ∈ direct ops i, listed.getD x false = true := by
      intro x hx
      unfold direct at hx
      simp only [hoi] at hx
      obtain ⟨e, he, rfl⟩ := List.mem_map.1 hx
      obtain ⟨he, hb⟩ := List.mem_filter.1 he
      exact hall e (Array.mem_toList_iff.1 he) hb
    have hL : (fun j => (listed.setIfInBounds i true).getD j false) = updL (fun j => listed.getD j false) i := by
      funext j
      unfold updL
      cases hji : Nat.beq j i with
      | true =>
        have := Nat.eq_of_beq_eq_true hji; subst this
        rw [Array.getD_eq_getD_getElem?, Array.getElem?_setIfInBounds_self_of_lt (by rw [hls]; exact hlt)]; rfl
      | false =>
        have : i ≠ j := fun e => by subst e; rw [Nat.beq_refl] at hji; cases hji
        exact getD_set_ne false this
    unfold wpOp
    simp only [hoi]
    have hwant : Region.wanted o (yielded ops a.tmps) = true := by
      unfold Region.wanted
      have := hDo.1
      cases hg : o.guard with
      | none => rfl
      | some g => rw [hg] at this; cases this
    rw [if_pos hwant]
    left
    refine step i hlt o hoi (fun j => listed.getD j false) (fun s => a.tmps.getD s undef) w a.eval a ⟨fun _ => rfl, fun _ => rfl, fun _ => rfl, fun _ => rfl⟩ hdn (by
      rcases Nat.lt_or_ge i listed.size with h | h
      · rw [Array.getD_eq_getD_getElem?, Array.getElem?_eq_getElem h] at hun ⊢; simpa using hun
      · rw [hls] at h; omega) hdir hJ _ fun v w' hJ' => ?_
    have hT : (fun s => (a.put o.dst v).tmps.getD s undef) = updT (fun s => a.tmps.getD s undef) o.dst v ∧ (a.put o.dst v).tmps.size = n ∧ (a.put o.dst v).defers = ds ∧ (∀ s, s ∉ D → (a.put o.dst v).tmps.getD s undef = a.tmps.getD s undef) := by
      have h2 := hDo.2
      cases hdst : o.dst with
      | none => exact ⟨rfl, hsz, hds, fun _ _ => rfl⟩
      | some d =>
        rw [hdst] at h2
        simp only [Bool.and_eq_true, decide_eq_true_eq] at h2
        have hne : ∀ s, d ≠ s → (a.tmps.setIfInBounds d v).getD s undef = a.tmps.getD s undef := fun s h => by
          rw [Array.getD_eq_getD_getElem?, Array.getElem?_setIfInBounds_ne h, ← Array.getD_eq_getD_getElem?]
        refine ⟨?_, by simpa [Act.put] using hsz, hds, fun s hs => hne s fun e => hs (by subst e; simpa using h2.1)⟩
        funext s
        show (a.tmps.setIfInBounds d v).getD s undef = cond (Nat.beq s d) v (a.tmps.getD s undef)
        cases hsd : Nat.beq s d with
        | true =>
          have := Nat.eq_of_beq_eq_true hsd; subst this
          rw [Array.getD_eq_getD_getElem?, Array.getElem?_setIfInBounds_self_of_lt (by rw [hsz]; exact h2.2)]; rfl
        | false => exact hne s fun e => by subst e; rw [Nat.beq_refl] at hsd; cases hsd
    refine ⟨by simpa using hls, hT.2.1, hT.2.2.1, fun s hs => (hT.2.2.2 s hs).trans (hfr s hs), ?_, ?_⟩
    · rw [hL]
      intro j hj x hx
      unfold updL at hj ⊢
      cases hxi : Nat.beq x i with
      | true => rfl
      | false =>
        cases hji : Nat.beq j i with
        | true => have := Nat.eq_of_beq_eq_true hji; subst this; exact hdir x hx
        | false => rw [hji] at hj; exact hdn j hj x hx
    · rw [hL, hT.1]; exact hJ'
  · rintro listed a w ⟨hls, hsz, hds, hfr, hdn, hJ⟩ hr
    exact fin _ a w (AllL.of (all_done hls hr ord [] ho (fun j hj => by cases hj))) hJ hsz hds hfr
end

/-- the frame, written out anew -/
theorem act_eq {a : Act} {ds : List Deferred} (l m : List Value) {D0 : List Nat} (D : List Nat) (hf0 : ∀ s, s ∉ D0 → a.tmps.getD s undef = l.toArray.getD s undef) (hsub : D0.all D.contains = true) (hs : a.tmps.size = l.length) (hd : a.defers = ds)
    (hm : ((List.range l.length).map fun s => cond (D.contains s) (a.tmps.getD s undef) (l.toArray.getD s undef)) = m) : a = ⟨m.toArray, ds⟩ := by
  have hf : ∀ s, s ∉ D → a.tmps.getD s undef = l.toArray.getD s undef := fun s hs => hf0 s fun h => hs (by have := List.all_eq_true.1 hsub s h; simpa using this)
  subst hm; subst hd
  have : a.tmps = (((List.range l.length).map fun s => cond (D.contains s) (a.tmps.getD s undef) (l.toArray.getD s undef))).toArray := by
    apply Array.ext
    · simpa using hs
    · intro i h1 h2
      simp only [List.getElem_toArray, List.getElem_map, List.getElem_range]
      cases hc : D.contains i with
      | true => show a.tmps[i] = a.tmps.getD i undef; rw [Array.getD_eq_getD_getElem?, Array.getElem?_eq_getElem h1]; rfl
      | false =>
        have := hf i (by intro h; rw [List.contains_iff_mem.2 h] at hc; cases hc)
        show a.tmps[i] = l.toArray.getD i undef
        rw [← this, Array.getD_eq_getD_getElem?, Array.getElem?_eq_getElem h1]; rfl
  cases a
  simp only [Act.mk.injEq, and_true] at this ⊢
  exact this
end Go.Proofs.YtenmogmdijnlhaaDoor

namespace Go.Proofs.YtenmogmdijnlhaaDoor
open Go.RowKit

/-- the block's cells -/
def Cells (w : World) (g : Nat) (t : TypeId) (cs : List Value) : Prop := w.heap[g]? = some (.cells cs.toArray t (0, 0))
theorem Cells.lt {w : World} {g : Nat} {t : TypeId} {cs : List Value} (h : Cells w g t cs) : g < w.heap.size := (Array.getElem?_eq_some_iff.1 h).1
theorem Cells.cell {w : World} {g : Nat} {t : TypeId} {cs : List Value} (h : Cells w g t cs) (k : Nat) {x : Value} (hx : cs[k]? = some x) : w.cell? ⟨g, k, none⟩ = some x := by
  simp only [World.cell?, show w.heap[g]? = _ from h]
  simpa using hx
theorem Cells.free {w : World} {g : Nat} {t : TypeId} {cs : List Value} (h : Cells w g t cs) (o : Nat) : w.frozen? ⟨g, o, none⟩ = false := by simp [World.frozen?, show w.heap[g]? = _ from h]
theorem Cells.step {w w' : World} {g : Nat} {t : TypeId} {cs : List Value} (h : Cells w g t cs) (hb : Below w.heap.size w w') : Cells w' g t cs := (hb.block g h.lt).trans h
theorem Cells.new (w : World) (t : TypeId) (cs : List Value) : Cells (w.alloc (.cells cs.toArray t)) w.heap.size t cs := heap_alloc_new _ _
theorem Cells.set {w : World} {g : Nat} {t : TypeId} {cs : List Value} (h : Cells w g t cs) (k : Nat) (v : Value) : Cells (w.setCell ⟨g, k, none⟩ v) g t (cs.set k v) := by
  obtain ⟨hlt, hk⟩ := Array.getElem?_eq_some_iff.1 h
  show (w.heap.modify g _)[g]? = _
  rw [Array.getElem?_eq_getElem (by rw [Array.size_modify]; exact hlt), Array.getElem_modify_self, hk]
  simp
theorem Cells.set_ne {w : World} {g C : Nat} {t : TypeId} {cs : List Value} (h : Cells w g t cs) (hne : C ≠ g) (k : Nat) (v : Value) : Cells (w.setCell ⟨C, k, none⟩ v) g t cs := by
  show (w.heap.modify C _)[g]? = _
  rw [Array.getElem?_modify, if_neg hne]; exact h
/-- all cells of a block written, one behind the other -/
def setAll (w : World) (C : Nat) : Nat → List Value → World
  | _, [] => w
  | k, v :: r => setAll (w.setCell ⟨C, k, none⟩ v) C (k + 1) r
theorem setCell_size (w : World) (p : Addr) (v : Value) : (w.setCell p v).heap.size = w.heap.size := by unfold World.setCell; simp
theorem setAll_size (C : Nat) : ∀ (vs : List Value) (k : Nat) (w : World), (setAll w C k vs).heap.size = w.heap.size
  | [], _, _ => rfl
  | v :: r, k, w => by unfold setAll; rw [setAll_size, setCell_size]
theorem Cells.all_ne {g C : Nat} {t : TypeId} {cs : List Value} (hne : C ≠ g) : ∀ (vs : List Value) (k : Nat) (w : World), Cells w g t cs → Cells (setAll w C k vs) g t cs
  | [], _, _, h => h
  | v :: r, k, _, h => Cells.all_ne hne r (k + 1) _ (h.set_ne hne k v)
theorem Cells.all {g : Nat} {t : TypeId} : ∀ (vs done cs : List Value) (w : World), Cells w g t (done ++ cs) → cs.length = vs.length → Cells (setAll w g done.length vs) g t (done ++ vs)
  | [], done, cs, _, h, hl => by
    have : cs = [] := List.eq_nil_of_length_eq_zero hl
    subst this; exact h
  | _ :: _, _, [], _, _, hl => by cases hl
  | v :: r, done, c :: cs, w, h, hl => by
    have h1 := h.set done.length v
    rw [List.set_append_right _ _ (Nat.le_refl _), Nat.sub_self, List.set_cons_zero] at h1
    have h2 := Cells.all r (done ++ [v]) cs (w.setCell ⟨g, done.length, none⟩ v) (by simpa using h1) (by simpa using hl)
    unfold setAll
    simpa using h2
theorem below_all {n : Nat} {w0 : World} {C : Nat} (hC : n ≤ C) : ∀ (vs : List Value) (k : Nat) (w : World), Below n w0 w → Below n w0 (setAll w C k vs)
  | [], _, _, h => h
  | v :: r, k, _, h => below_all hC r (k + 1) _ (h.setCell (p := ⟨C, k, none⟩) hC v)
/-- no cell is a limb -/
def NoLimbs (cs : List Value) : Prop := ∀ c ∈ cs, ∀ z, c ≠ .int .u32 z
theorem spares_all {C : Nat} {t : TypeId} : ∀ (vs done cs : List Value) (w : World), Cells w C t (done ++ cs) → cs.length = vs.length → NoLimbs cs → Spares w (setAll w C done.length vs)
  | [], _, _, _, _, _, _ => fun _ _ h => h
  | _ :: _, _, [], _, _, hl, _ => by cases hl
  | v :: r, done, c :: cs, w, h, hl, hn => by
    have h1 := h.set done.length v
    rw [List.set_append_right _ _ (Nat.le_refl _), Nat.sub_self, List.set_cons_zero] at h1
    have h2 := spares_all r (done ++ [v]) cs (w.setCell ⟨C, done.length, none⟩ v) (by simpa using h1) (by simpa using hl) (fun x hx => hn x (List.mem_cons_of_mem _ hx))
    rw [show (done ++ [v]).length = done.length + 1 by simp] at h2
    exact (Spares.set (h.cell done.length (by simp)) (hn c List.mem_cons_self) v).trans h2
/-- the pointer leads to a block that is not older than B -/
def PS (B : Nat) (w : World) (p : Value) : Prop := ∃ g, p = .pointer (some ⟨g, 0, none⟩) ∧ B ≤ g ∧ g < w.heap.size
/-- .. in which these cells lie -/
def PB (B : Nat) (w : World) (t : TypeId) (p : Value) (cs : List Value) : Prop := ∃ g, p = .pointer (some ⟨g, 0, none⟩) ∧ B ≤ g ∧ Cells w g t cs
/-- .. in which the cells of v lie -/
def PV (B : Nat) (w : World) (t : TypeId) (p v : Value) : Prop := ∃ g cs, p = .pointer (some ⟨g, 0, none⟩) ∧ B ≤ g ∧ v = .agg cs.toArray ∧ Cells w g t cs
theorem PS.step {B : Nat} {w w' : World} {p : Value} (h : PS B w p) (hb : Below w.heap.size w w') : PS B w' p := by
  obtain ⟨g, rfl, h1, h2⟩ := h; exact ⟨g, rfl, h1, Nat.lt_of_lt_of_le h2 hb.size⟩
theorem PB.step {B : Nat} {w w' : World} {t : TypeId} {p : Value} {cs : List Value} (h : PB B w t p cs) (hb : Below w.heap.size w w') : PB B w' t p cs := by
  obtain ⟨g, rfl, h1, h2⟩ := h; exact ⟨g, rfl, h1, h2.step hb⟩
theorem PV.step {B : Nat} {w w' : World} {t : TypeId} {p v : Value} (h : PV B w t p v) (hb : Below w.heap.size w w') : PV B w' t p v := by
  obtain ⟨g, cs, rfl, h1, rfl, h2⟩ := h; exact ⟨g, cs, rfl, h1, rfl, h2.step hb⟩
theorem PS.new {B : Nat} {w : World} (h : B ≤ w.heap.size) (o : Obj) : PS B (w.alloc o) (.pointer (some ⟨w.heap.size, 0, none⟩)) := ⟨_, rfl, h, by rw [World.size_alloc]; omega⟩
theorem PB.new {B : Nat} {w : World} (h : B ≤ w.heap.size) (t : TypeId) (cs : List Value) : PB B (w.alloc (.cells cs.toArray t)) t (.pointer (some ⟨w.heap.size, 0, none⟩)) cs := ⟨_, rfl, h, Cells.new _ _ _⟩
theorem PS.ne {B : Nat} {w : World} {p : Value} (h : PS B w p) : p ≠ .pointer (some ⟨w.heap.size, 0, none⟩) := by
  obtain ⟨g, rfl, _, h2⟩ := h
  intro e
  simp only [Value.pointer.injEq, Option.some.injEq, Addr.mk.injEq] at e
  omega
theorem PS.put {B C : Nat} {w : World} {p : Value} (h : PS B w p) (vs : List Value) : PS B (setAll w C 0 vs) p := by
  obtain ⟨g, rfl, h1, h2⟩ := h; exact ⟨g, rfl, h1, by rw [setAll_size]; exact h2⟩
theorem ptr_ne {g C : Nat} {p : Value} (h : p = .pointer (some ⟨g, 0, none⟩)) (hne : .pointer (some ⟨C, 0, none⟩) ≠ p) : C ≠ g := fun e => hne (by rw [h, e])
theorem PB.put {B C : Nat} {w : World} {t : TypeId} {p q : Value} {cs : List Value} (h : PB B w t p cs) (hq : q = .pointer (some ⟨C, 0, none⟩)) (hne : q ≠ p) (vs : List Value) : PB B (setAll w C 0 vs) t p cs := by
  subst hq
  obtain ⟨g, h0, h1, h2⟩ := h; exact ⟨g, h0, h1, h2.all_ne (ptr_ne h0 hne) _ _ _⟩
theorem PV.put {B C : Nat} {w : World} {t : TypeId} {p q v : Value} (h : PV B w t p v) (hq : q = .pointer (some ⟨C, 0, none⟩)) (hne : q ≠ p) (vs : List Value) : PV B (setAll w C 0 vs) t p v := by
  subst hq
  obtain ⟨g, cs, h0, h1, h3, h2⟩ := h; exact ⟨g, cs, h0, h1, h3, h2.all_ne (ptr_ne h0 hne) _ _ _⟩
theorem PV.set' {B C : Nat} {w : World} {t : TypeId} {p v : Value} {cs : List Value} (vs : List Value) (hp : p = .pointer (some ⟨C, 0, none⟩)) (hv : v = .agg vs.toArray) (h : Cells w C t cs) (hB : B ≤ C) (hl : cs.length = vs.length) :
    PV B (setAll w C 0 vs) t p v := by
  subst hp; subst hv
  exact ⟨C, vs, rfl, hB, rfl, Cells.all vs [] cs w h hl⟩
theorem keeps_all {C : Nat} {w : World} {t : TypeId} {cs : List Value} (h : Cells w C t cs) (hn : NoLimbs cs) (vs : List Value) (hl : cs.length = vs.length) : Spares w (setAll w C 0 vs) := spares_all vs [] cs w h hl hn
theorem no_yet {p : Prop} (h : (false : Bool) = true) : p := by cases h
theorem no_more {p : Prop} (h : (true : Bool) = false) : p := by cases h
end Go.Proofs.YtenmogmdijnlhaaDoor
