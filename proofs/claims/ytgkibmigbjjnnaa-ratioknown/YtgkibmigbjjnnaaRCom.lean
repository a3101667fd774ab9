/- ratio.Common. -/
import Derived.Test.YtgkibmigbjjnnaaWRow
import Derived.Laws.AppendOwn
import Derived.Test.YtgkibmigbjjnnaaR2Norm
import Derived.Test.YtgkibmigbjjnnaaR2DM
import Derived.Deep.Cut
import Derived.RegionTactic
import Derived.Test.YtgkibmigbjjnnaaCalm
import Derived.Test.YtgkibmigbjjnnaaRt
import Derived.Test.YtgkibmigbjjnnaaR2Law
import Derived.Test.YtgkibmigbjjnnaaRAdd
import Derived.Test.YtgkibmigbjjnnaaR2Make
namespace Go.Proofs.Ytgkibmigbjjnnaa
open Go.RowKit

/-- a list of one's own of which no cell holds a limb -/
def Own2 (w : World) (base : Nat) (e : TypeId) (v : Value) (n : Nat) (xs : List Value) : Prop :=
  w.ownsRow base e 2 v n xs ∧ ∀ g cur t fr, v.ownBlock = some g → w.heap[g]? = some (.cells cur t fr) → ∀ c ∈ cur.toList, ∀ z, c ≠ .int .u32 z
theorem Own2.nil (w : World) (base : Nat) (e : TypeId) : Own2 w base e (.slice none 0 0) 0 [] := ⟨World.ownsRow_nil _ _ _ _, fun g cur t fr h => by cases h⟩
theorem Own2.below {w w' : World} {base : Nat} {e : TypeId} {v : Value} {n : Nat} {xs : List Value} (h : Own2 w base e v n xs) (hb : Below w.heap.size w w') : Own2 w' base e v n xs := by
  obtain ⟨⟨hl, h1⟩, h2⟩ := h
  refine ⟨⟨hl, ?_⟩, fun g cur t fr hg hh => h2 g cur t fr hg ?_⟩
  · rcases h1 with h0 | ⟨g, cap, cur, rfl, hg, hh, r⟩
    · exact .inl h0
    · exact .inr ⟨g, cap, cur, rfl, hg, by rw [hb.block g (Array.getElem?_eq_some_iff.1 hh).1]; exact hh, r⟩
  · rcases h1 with ⟨rfl, _⟩ | ⟨g', cap, cur', rfl, _, hh', r⟩
    · cases hg
    · have e : g' = g := by simpa [Value.ownBlock] using hg
      subst e
      rw [← hb.block g' (Array.getElem?_eq_some_iff.1 hh').1]; exact hh
/-- what is written into such a list leaves all limbs -/
theorem Own2.spares {w w' : World} {base : Nat} {e : TypeId} {v : Value} {n : Nat} {xs : List Value} (h : Own2 w base e v n xs) (hg : w.grownBy w' v.ownBlock) : Spares w w' := by
  intro u ys hn
  obtain ⟨ho, a, cap, rfl, h1, h2, h3⟩ := hn
  refine ⟨ho, a, cap, rfl, h1, h2, fun hx => ?_⟩
  obtain ⟨b, off, rfl, hcell⟩ := h3 hx
  refine ⟨b, off, rfl, fun i hi => hg.cell (hcell i hi) fun e => ?_⟩
  have hc := hcell i hi
  cases hb : w.heap[b]? with
  | none => simp [World.cell?, hb] at hc
  | some ob =>
    cases ob with
    | cells cur t fr =>
      have hc' : cur[off + i]? = some (.int .u32 (lm ys i)) := by simpa [World.cell?, hb, lm] using hc
      have hm : (Value.int .u32 (lm ys i)) ∈ cur.toList := by
        rw [← Array.getElem?_toList] at hc'
        exact List.mem_of_getElem? hc'
      exact h.2 b cur t fr e.symm hb _ hm _ rfl
    | _ => simp [World.cell?, hb] at hc
theorem mem_zeroCells {n : Nat} {c : Value} (h : c ∈ (Builtin.zeroCells #[.bool false, .slice none 0 0] n).toList) : c = .bool false ∨ c = .slice none 0 0 := by
  simp only [Builtin.zeroCells, Array.toList_map, List.mem_map] at h
  obtain ⟨i, _, rfl⟩ := h
  have : i % (#[Value.bool false, .slice none 0 0] : Array Value).size < 2 := Nat.mod_lt _ (by decide)
  generalize i % (#[Value.bool false, .slice none 0 0] : Array Value).size = j at *
  match j, this with
  | 0, _ => exact .inl rfl
  | 1, _ => exact .inr rfl
theorem wp_app2 {P : Program} (w : World) {o : Oper} {a : Act} {K : Act → World → Prop} {Q : Exit → Act → World → Prop} (s x : Operand) (t : TypeId)
    (ho : o.op = .call { callee := .builtin .append, args := #[s, x], argTypes := #[t, t] })
    (base : Nat) (e : TypeId) (i : TypeInfo) (ht : P.underlying t = some (.slice e)) (hi : P.info? e = some i) (hz : i.zero = some (.agg #[.bool false, .slice none 0 0])) (hsize : i.size = 2) (hby : i.bytes = 32)
    (v : Value) (n : Nat) (xs : List Value) (hs : a.eval s = v) (hown : Own2 w base e v n xs)
    (b c : Nat) (b0 : Bool) (m0 : Option Addr) (l0 c0 : Nat) (hx : a.eval x = .slice (some ⟨b, 0, none⟩) 1 c) (hc0 : w.cell? ⟨b, 0, none⟩ = some (.bool b0)) (hc1 : w.cell? ⟨b, 1, none⟩ = some (.slice m0 l0 c0))
    (hn : n ≤ 1000000000) (hbase : base ≤ w.heap.size)
    (h : ∀ v' w', Own2 w' base e v' (n + 1) (xs ++ [.bool b0, .slice m0 l0 c0]) → w.grownBy w' v.ownBlock → (v'.ownBlock = v.ownBlock ∨ v'.ownBlock = some w.heap.size) → K (a.put o.dst v') w') : o.wp P a w K Q := by
  have hl : ([.bool b0, .slice m0 l0 c0] : List Value).length = 1 * i.size := by rw [hsize]; rfl
  have hnews : ∀ j u, ([.bool b0, .slice m0 l0 c0] : List Value)[j]? = some u → w.cell? ((⟨b, 0, none⟩ : Addr).add j) = some u := by
    intro j u hj
    match j with
    | 0 => simp only [List.getElem?_cons_zero, Option.some.injEq] at hj; rw [← hj]; exact hc0
    | 1 => simp only [List.getElem?_cons_succ, List.getElem?_cons_zero, Option.some.injEq] at hj; rw [← hj]; exact hc1
    | j + 2 => simp at hj
  have h1 : ∀ u ∈ ([.bool b0, .slice m0 l0 c0] : List Value), u.oneCell' = true := by
    intro u hu
    simp only [List.mem_cons, List.not_mem_nil, or_false] at hu
    rcases hu with rfl | rfl <;> rfl
  have hnu : ∀ u ∈ ([.bool b0, .slice m0 l0 c0] : List Value), ∀ z, u ≠ .int .u32 z := by
    intro u hu z
    simp only [List.mem_cons, List.not_mem_nil, or_false] at hu
    rcases hu with rfl | rfl <;> simp
  have hzn : ∀ k, ∀ u ∈ (Builtin.zeroCells #[.bool false, .slice none 0 0] k).toList, ∀ z, u ≠ .int .u32 z := by
    intro k u hu z
    rcases mem_zeroCells hu with rfl | rfl <;> simp
  have h63 : n + 1 ≤ maxLen := by unfold maxLen; omega
  obtain ⟨v', w', hr, h2, h3, h4⟩ := run_append_own (P := P) w base t o.type e i _ 2 32 ht hi hz hsize hby rfl (by decide) v n xs hown.1 ⟨b, 0, none⟩ 1 c [.bool b0, .slice m0 l0 c0] (by rw [hl, hsize]) hnews h1 h63 (by omega) hbase
  have hp : (∀ g cur tt fr, v'.ownBlock = some g → w'.heap[g]? = some (.cells cur tt fr) → ∀ u ∈ cur.toList, ∀ z, u ≠ .int .u32 z) ∧ (v'.ownBlock = v.ownBlock ∨ v'.ownBlock = some w.heap.size) := by
    rcases hown.1.2 with ⟨rfl, rfl⟩ | ⟨g0, cap, cur0, rfl, hbg, hg0, hnc, hcm, hcs, htake⟩
    · have hr' := run_append_nil (P := P) w t o.type e i _ ht hi hz ⟨b, 0, none⟩ 1 c [.bool b0, .slice m0 l0 c0] hl hnews (by decide) (by decide) (by rw [hby]; decide)
      rw [hr'] at hr
      simp only [Result.ok.injEq] at hr
      obtain ⟨rfl, rfl⟩ := hr
      refine ⟨?_, .inr rfl⟩
      intro g cur tt fr hg hh u hu z
      have e : w.heap.size = g := by simpa [Value.ownBlock] using hg
      subst e
      rw [show (w.heap.size : Nat) = w.drew.heap.size from rfl, heap_alloc_new] at hh
      simp only [Option.some.injEq, Obj.cells.injEq] at hh
      obtain ⟨rfl, _⟩ := hh
      rw [Array.toList_append] at hu
      rcases List.mem_append.1 hu with hu | hu
      · exact hnu u (by simpa using hu) z
      · exact hzn _ u hu z
    · have hall := hown.2 g0 cur0 e (0, 0) rfl hg0
      by_cases hroom : n + 1 ≤ cap
      · have hfit : n * i.size + ([.bool b0, .slice m0 l0 c0] : List Value).length ≤ cur0.size := by rw [hsize, hcs]; show n * 2 + 2 ≤ cap * 2; omega
        have hr' := run_append_room (P := P) w t o.type e i ht hi g0 n cap cur0 hg0 ⟨b, 0, none⟩ 1 c [.bool b0, .slice m0 l0 c0] hl hnews h1 hroom hfit
        rw [hr'] at hr
        simp only [Result.ok.injEq] at hr
        obtain ⟨rfl, rfl⟩ := hr
        refine ⟨?_, .inl rfl⟩
        intro g cur tt fr hg hh u hu z
        have e : g0 = g := by simpa [Value.ownBlock] using hg
        subst e
        rw [setRow_heap w g0 cur0 _ _ _ hg0] at hh
        simp only [Option.some.injEq, Obj.cells.injEq] at hh
        obtain ⟨rfl, _⟩ := hh
        simp only [List.mem_append] at hu
        rcases hu with (hu | hu) | hu
        · exact hall u (List.mem_of_mem_take hu) z
        · exact hnu u hu z
        · exact hall u (List.mem_of_mem_drop hu) z
      · have holds : ∀ j u, xs[j]? = some u → w.cell? ((⟨g0, 0, none⟩ : Addr).add j) = some u := hown.1.cells (g := g0) rfl
        have hr' := run_append_grow (P := P) w t o.type e i _ ht hi hz ⟨g0, 0, none⟩ n cap xs (by rw [hsize]; exact hown.1.1) holds ⟨b, 0, none⟩ 1 c [.bool b0, .slice m0 l0 c0] hl hnews (by omega) (by omega) (growslice_fits (by omega) (by rw [hby]; omega))
        rw [hr'] at hr
        simp only [Result.ok.injEq] at hr
        obtain ⟨rfl, rfl⟩ := hr
        refine ⟨?_, .inr rfl⟩
        intro g cur tt fr hg hh u hu z
        have e : w.heap.size = g := by simpa [Value.ownBlock] using hg
        subst e
        rw [show (w.heap.size : Nat) = w.drew.heap.size from rfl, heap_alloc_new] at hh
        simp only [Option.some.injEq, Obj.cells.injEq] at hh
        obtain ⟨rfl, _⟩ := hh
        simp only [Array.toList_append, List.mem_append] at hu
        rcases hu with (hu | hu) | hu
        · rw [← htake] at hu; exact hall u (List.mem_of_mem_take (by simpa using hu)) z
        · exact hnu u (by simpa using hu) z
        · exact hzn _ u hu z
  unfold Oper.wp execOp
  simp only [ho, resolve, invoke, builtin, Sem.run_bind, Sem.run_pure, Result.andThen_ok, List.map_toArray, List.map_cons, List.map_nil, hs, hx, hr]
  exact h v' w' ⟨h2, hp.1⟩ h3 hp.2
end Go.Proofs.Ytgkibmigbjjnnaa

namespace Go.Proofs.Ytgkibmigbjjnnaa
open Go.RowKit

theorem RInt.len {w : World} {s : Bool} {m : Option Addr} {n c : Nat} {z : Int} (h : RInt w (.agg #[.bool s, .slice m n c]) z) : (z = 0 → n = 0) ∧ (z ≠ 0 → 0 < n) ∧ c ≤ maxLen ∧ n ≤ c := by
  obtain ⟨b, k, a, c', he, hn, rfl, h0⟩ := h
  simp only [Value.agg.injEq, Array.mk.injEq, List.cons.injEq, Value.bool.injEq, Value.slice.injEq, and_true] at he
  obtain ⟨rfl, rfl, rfl, rfl⟩ := he
  obtain ⟨_, a', c'', he, h1, h2, _⟩ := hn
  simp only [Value.slice.injEq] at he
  obtain ⟨_, _, rfl⟩ := he
  refine ⟨fun h => ?_, fun h => ?_, h2, h1⟩
  · have : k = 0 := by have := congrArg Int.natAbs h; rw [sg_abs] at this; simpa using this
    rw [this]; rfl
  · rcases Nat.eq_zero_or_pos k with e | e
    · rw [e, sg_zero] at h; exact absurd rfl h
    · rw [D.lim_pos e]; simp

/-- what Over answers -/
def ROverP (x y : Int) (w : World) (e : Ending) (w' : World) : Prop := ∃ v z b, e = .returned (.tuple #[v, .bool b]) ∧ RInt w' v z ∧ ((x % y ≠ 0 ∧ z = 0 ∧ b = false) ∨ (x % y = 0 ∧ z = x / y ∧ b = true)) ∧ Below w.heap.size w w'

end Go.Proofs.Ytgkibmigbjjnnaa

namespace Go.Proofs.Ytgkibmigbjjnnaa
open Go.RowKit

/-- the number whose digits lie over a slice -/
def dnumOf (w : World) : Value → Nat
  | .slice (some a) n _ => D.val ((List.range n).map fun i => match w.cell? ⟨a.block, a.off + i, none⟩ with
    | some (.int _ z) => z.toNat
    | _ => 0)
  | _ => 0
theorem Nums.dnumOf {w : World} {v : Value} {xs : List Nat} (h : Nums w v xs) : dnumOf w v = D.val xs := by
  rcases h.cases with ⟨rfl, a, cap, rfl, _⟩ | ⟨hpos, b, off, cap, rfl, hl, hm, hb, hc⟩
  · cases a <;> rfl
  · show D.val ((List.range xs.length).map _) = D.val xs
    congr 1
    apply List.ext_getElem (by simp)
    intro i h1 h2
    simp only [List.getElem_map, List.getElem_range]
    rw [hc i h2]
    simp [lm_get _ _ h2]
/-- the number that a variable of the document's holds, without its sign -/
def dnumAt (w : World) (g : Nat) : Nat := dnumOf w ((w.cell? ⟨g, 1, none⟩).getD undef)
end Go.Proofs.Ytgkibmigbjjnnaa

namespace Go.Proofs.Ytgkibmigbjjnnaa
open Go.RowKit

section
variable {P : Program} {md : Region.Mode} {ops : Array Oper} {Q : Exit → Act → World → Prop} {F : World → Prop} {pend : Nat → Bool}

/-- j waits for i, by so many steps at most -/
def Late (md : Region.Mode) (ops : Array Oper) (i : Nat) : Nat → Nat → Bool
  | 0, _ => false
  | n + 1, j => match ops[j]? with
    | some oj => oj.after.any fun e => Region.binds md e && (e.on == i || Late md ops i n e.on)
    | none => false

/-- what is listed waits for nothing that is not -/
def Closed (md : Region.Mode) (ops : Array Oper) (listed : Array Bool) : Bool :=
  (List.range ops.size).all fun j => !(listed.getD j true) || match ops[j]? with
    | some oj => oj.after.all fun e => !(Region.binds md e) || listed.getD e.on false
    | none => true

def WaitsL (md : Region.Mode) (ops : Array Oper) (pend : Nat → Bool) (i n : Nat) : Bool :=
  (List.range ops.size).all fun j => j == i || pend j || Late md ops i n j

/-- what is listed waits for nothing that is not, as a proposition -/
def Shut (md : Region.Mode) (ops : Array Oper) (listed : Array Bool) : Prop :=
  ∀ (j : Nat) (oj : Oper), ops[j]? = some oj → listed[j]? = some true → ∀ e ∈ oj.after, Region.binds md e = true → listed[e.on]? = some true

theorem Closed.shut {listed : Array Bool} (h : Closed md ops listed = true) : Shut md ops listed := by
  intro j oj hj hl e he hb
  have := List.all_eq_true.1 h j (List.mem_range.2 (Array.getElem?_eq_some_iff.1 hj).1)
  have hl' : listed.getD j true = true := by simp [hl]
  simp only [hj, hl', Bool.not_true, Bool.false_or] at this
  have h2 := Array.all_eq_true'.1 this e he
  simp only [hb, Bool.not_true, Bool.false_or] at h2
  rcases Nat.lt_or_ge e.on listed.size with h' | h'
  · simp [h'] at h2 ⊢; exact h2
  · simp [Array.getElem?_eq_none h'] at h2

theorem Shut.not_late {listed : Array Bool} {i : Nat} (h : Shut md ops listed) (hi : listed[i]? ≠ some true) : ∀ (n j : Nat), listed[j]? = some true → Late md ops i n j = false
  | 0, _, _ => rfl
  | n + 1, j, hj => by
    unfold Late
    cases ho : ops[j]? with
    | none => rfl
    | some oj =>
      simp only
      rw [Array.any_eq_false']
      intro e he hc
      simp only [Bool.and_eq_true, Bool.or_eq_true, beq_iff_eq] at hc
      have hl := h j oj ho hj e he hc.1
      rcases hc.2 with h1 | h1
      · rw [h1] at hl; exact hi hl
      · rw [h.not_late hi n e.on hl] at h1; cases h1

theorem Calm.firstL {i n : Nat} {oi : Oper} {v : Value} (hi : ops[i]? = some oi) (hs : Region.noSelect ops = true) (hw : WaitsL md ops pend i (n + 1) = true)
    (hQ : ∀ c a w, Q (.panic c) (a.put oi.dst v) w → Q (.panic c) a w) : ∀ (fuel : Nat) (listed : Array Bool) (a : Act) (w : World), Shut md ops listed →
      (∀ j oj, ops[j]? = some oj → j ≠ i → listed.getD j true = false → (∀ e ∈ oj.after, Region.binds md e = true → e.on ≠ i) → oi.apart ops oj = true) →
      i ∈ Region.ready md ops listed → F w → Gives P ops F oi v a → Calm P md ops Q F pend fuel (listed.setIfInBounds i true) (a.put oi.dst v) w → Calm P md ops Q F pend (fuel + 1) listed a w := by
  have hsel := Region.noSelect_spec hs
  intro fuel
  induction fuel with
  | zero =>
    intro listed a w _ _ hr hF hy H
    refine ⟨fun h => (by rw [h] at hr; cases hr), fun j hj => ?_⟩
    by_cases e : j = i
    · subst e; exact hy.wpOp hi hF ⟨fun _ => hF, H⟩
    · have := ready_mono hj e
      rw [H.1] at this
      cases this
  | succ fuel ih =>
    intro listed a w hsh hfree hr hF hy H
    refine ⟨fun h => (by rw [h] at hr; cases hr), fun j hj => ?_⟩
    by_cases e : j = i
    · subst e; exact hy.wpOp hi hF ⟨fun _ => hF, H⟩
    · obtain ⟨hun, oj, hoj, hall⟩ := mem_ready.1 hj
      have hni : listed[i]? ≠ some true := by
        have h0 := (mem_ready.1 hr).1
        intro hc
        simp [hc] at h0
      have hto : ∀ e ∈ oj.after, Region.binds md e = true → listed[e.on]? = some true := fun e he hb => by
        have h1 := hall e he hb
        rcases Nat.lt_or_ge e.on listed.size with h' | h'
        · simp [h'] at h1 ⊢; exact h1
        · simp [Array.getElem?_eq_none h'] at h1
      have hno : ∀ e ∈ oj.after, Region.binds md e = true → e.on ≠ i := fun e he hb heq => by
        have h1 := hto e he hb
        rw [heq] at h1
        exact hni h1
      have hlate : Late md ops i (n + 1) j = false := by
        unfold Late
        simp only [hoj]
        rw [Array.any_eq_false']
        intro e he hc
        simp only [Bool.and_eq_true, Bool.or_eq_true, beq_iff_eq] at hc
        rcases hc.2 with h1 | h1
        · exact hno e he hc.1 h1
        · rw [hsh.not_late hni n e.on (hto e he hc.1)] at h1; cases h1
      have hp : pend j = true := by
        have := List.all_eq_true.1 hw j (List.mem_range.2 (Array.getElem?_eq_some_iff.1 hoj).1)
        simp only [hlate, Bool.or_false, Bool.or_eq_true, beq_iff_eq, e, false_or] at this
        exact this
      have hsh' : Shut md ops (listed.setIfInBounds j true) := by
        intro k ok hk hl e' he' hb'
        have up : listed[e'.on]? = some true → (listed.setIfInBounds j true)[e'.on]? = some true := fun h => by
          rw [Array.getElem?_setIfInBounds]
          split
          · next h2 => rw [if_pos (by rw [h2]; exact (Array.getElem?_eq_some_iff.1 h).1)]
          · exact h
        by_cases hkj : j = k
        · subst hkj
          rw [hoj] at hk; cases hk
          exact up (hto e' he' hb')
        · rw [Array.getElem?_setIfInBounds, if_neg hkj] at hl
          exact up (hsh k ok hk hl e' he' hb')
      obtain ⟨k1, k2, k3⟩ := Oper.apart_spec (hfree j oj hoj e hun hno)
      have same : ∀ (a a' : Act), execOp a'.eval oi = execOp a.eval oi → Region.wanted oi (yielded ops a'.tmps) = Region.wanted oi (yielded ops a.tmps) → Gives P ops F oi v a → Gives P ops F oi v a' := by
        intro a a' h1 h2 h3
        unfold Gives at *
        rw [h1, h2]; exact h3
      have h2 := wpOp_late (x := oi.dst) (v := v) (Y := Gives P ops F oi v) hoj k1 k2 (fun cs b => hsel j oj cs b hoj) hQ
        (fun a u => same _ _ (execOp_put oi (fun cs b => hsel i oi cs b hi) a oj.dst u k3) (wanted_put oi a oj.dst u k3)) (fun a d => same _ _ rfl rfl) hy (H.2 j (ready_mono hj e))
      refine wpOp_mono (fun a' w' h3 => ⟨h3.2.1, ?_⟩) h2
      refine ih (listed.setIfInBounds j true) a' w' hsh' (fun k ok hk hki hun' hno' => hfree k ok hk hki ?_ hno') (ready_mono hr (Ne.symm e)) (h3.2.1 hp) h3.1 ?_
      · by_cases hjk : j = k
        · subst hjk; exact hun
        · rw [getD_set_ne true hjk] at hun'; exact hun'
      · rw [Array.setIfInBounds_comm _ _ e]; exact h3.2.2

theorem Calm.takeL {i : Nat} (n : Nat) {oi : Oper} {v : Value} {fuel : Nat} {listed : Array Bool} {a : Act} {w : World} (hc : Closed md ops listed = true) (hi : ops[i]? = some oi) (hs : Region.noSelect ops = true) (hw : WaitsL md ops pend i (n + 1) = true) (hf : Region.free md ops listed i = true)
    (hr : (Region.ready md ops listed).contains i = true) (hQ : ∀ c a w, Q (.panic c) (a.put oi.dst v) w → Q (.panic c) a w) (hF : F w) (hg : Region.wanted oi (yielded ops a.tmps) = true) (hy : ∀ w, F w → (execOp a.eval oi).run P w = .ok (.value v) w)
    {l' : Array Bool} (hl : listed.setIfInBounds i true = l') {d : Option Tmp} (hd : oi.dst = d) {a' : Act} (ha : a.put d v = a') (h : Calm P md ops Q F pend fuel l' a' w) : Calm P md ops Q F pend (fuel + 1) listed a w := by
  subst hl; subst hd; subst ha
  exact Calm.firstL hi hs hw hQ fuel listed a w (Closed.shut hc) (Region.free_spec hi hf) (by simpa using hr) hF (.inl ⟨hg, hy⟩) h
end
end Go.Proofs.Ytgkibmigbjjnnaa

namespace Go.Proofs.Ytgkibmigbjjnnaa
open Go.RowKit

def BoxQ (W : World) (B : Nat) (x y u v : Value) : Prop := W.heap[B]? = some (.cells #[x, y, u, v] 59 (0, 0))
theorem BoxQ.cell0 {W : World} {B : Nat} {x y u v : Value} (h : BoxQ W B x y u v) : W.cell? ⟨B, 0, none⟩ = some x := by simp [World.cell?, show W.heap[B]? = _ from h]
theorem BoxQ.cell1 {W : World} {B : Nat} {x y u v : Value} (h : BoxQ W B x y u v) : W.cell? ⟨B, 1, none⟩ = some y := by simp [World.cell?, show W.heap[B]? = _ from h]
theorem BoxQ.cell2 {W : World} {B : Nat} {x y u v : Value} (h : BoxQ W B x y u v) : W.cell? ⟨B, 2, none⟩ = some u := by simp [World.cell?, show W.heap[B]? = _ from h]
theorem BoxQ.cell3 {W : World} {B : Nat} {x y u v : Value} (h : BoxQ W B x y u v) : W.cell? ⟨B, 3, none⟩ = some v := by simp [World.cell?, show W.heap[B]? = _ from h]
theorem BoxQ.free {W : World} {B : Nat} {x y u v : Value} (h : BoxQ W B x y u v) (o : Nat) : W.frozen? ⟨B, o, none⟩ = false := by simp [World.frozen?, show W.heap[B]? = _ from h]
theorem BoxQ.lt {W : World} {B : Nat} {x y u v : Value} (h : BoxQ W B x y u v) : B < W.heap.size := (Array.getElem?_eq_some_iff.1 h).1
theorem BoxQ.step {W W' : World} {B : Nat} {x y u v : Value} (h : BoxQ W B x y u v) (hb : Below W.heap.size W W') : BoxQ W' B x y u v := (hb.block B h.lt).trans h
theorem BoxQ.drew {W : World} {B : Nat} {x y u v : Value} (h : BoxQ W B x y u v) : BoxQ W.drew B x y u v := h
theorem BoxQ.new (W : World) (x y u v : Value) : BoxQ (W.alloc (.cells #[x, y, u, v] 59)) W.heap.size x y u v := heap_alloc_new _ _
theorem BoxQ.set_ne {W : World} {B C o : Nat} {x y u v : Value} (h : BoxQ W B x y u v) (hne : C ≠ B) (c : Value) : BoxQ (W.setCell ⟨C, o, none⟩ c) B x y u v := by
  show (W.heap.modify C _)[B]? = _
  rw [Array.getElem?_modify, if_neg hne]; exact h
theorem BoxQ.set {W : World} {B : Nat} {x y u v : Value} (h : BoxQ W B x y u v) (o : Nat) (c : Value) : (W.setCell ⟨B, o, none⟩ c).heap[B]? = some (.cells (#[x, y, u, v].setIfInBounds o c) 59 (0, 0)) := by
  obtain ⟨hlt, hk⟩ := Array.getElem?_eq_some_iff.1 h
  show (W.heap.modify B _)[B]? = _
  rw [Array.getElem?_eq_getElem (by rw [Array.size_modify]; exact hlt), Array.getElem_modify_self, hk]
  rfl
theorem BoxQ.put {W : World} {B : Nat} {x y u v : Value} (h : BoxQ W B x y u v) (x' y' u' v' : Value) : BoxQ ((((W.setCell ⟨B, 0, none⟩ x').setCell ⟨B, 1, none⟩ y').setCell ⟨B, 2, none⟩ u').setCell ⟨B, 3, none⟩ v') B x' y' u' v' := by
  have h0 : BoxQ (W.setCell ⟨B, 0, none⟩ x') B x' y u v := h.set 0 x'
  have h1 : BoxQ ((W.setCell ⟨B, 0, none⟩ x').setCell ⟨B, 1, none⟩ y') B x' y' u v := h0.set 1 y'
  have h2 : BoxQ (((W.setCell ⟨B, 0, none⟩ x').setCell ⟨B, 1, none⟩ y').setCell ⟨B, 2, none⟩ u') B x' y' u' v := h1.set 2 u'
  exact h2.set 3 v'
theorem BoxQ.keeps {W : World} {B : Nat} {x y u v : Value} (h : BoxQ W B x y u v) (hx : ∀ z, x ≠ .int .u32 z) (hy : ∀ z, y ≠ .int .u32 z) (hu : ∀ z, u ≠ .int .u32 z) (hv : ∀ z, v ≠ .int .u32 z) (x' y' u' v' : Value) : Spares W ((((W.setCell ⟨B, 0, none⟩ x').setCell ⟨B, 1, none⟩ y').setCell ⟨B, 2, none⟩ u').setCell ⟨B, 3, none⟩ v') := by
  have h0 : BoxQ (W.setCell ⟨B, 0, none⟩ x') B x' y u v := h.set 0 x'
  have h1 : BoxQ ((W.setCell ⟨B, 0, none⟩ x').setCell ⟨B, 1, none⟩ y') B x' y' u v := h0.set 1 y'
  have h2 : BoxQ (((W.setCell ⟨B, 0, none⟩ x').setCell ⟨B, 1, none⟩ y').setCell ⟨B, 2, none⟩ u') B x' y' u' v := h1.set 2 u'
  exact (((Spares.set h.cell0 hx x').trans (Spares.set h0.cell1 hy y')).trans (Spares.set h1.cell2 hu u')).trans (Spares.set h2.cell3 hv v')
theorem BoxQ.other4 {W : World} {B C : Nat} {x y u v : Value} (h : BoxQ W B x y u v) (hne : C ≠ B) (x' y' u' v' : Value) : BoxQ ((((W.setCell ⟨C, 0, none⟩ x').setCell ⟨C, 1, none⟩ y').setCell ⟨C, 2, none⟩ u').setCell ⟨C, 3, none⟩ v') B x y u v := (((h.set_ne hne _).set_ne hne _).set_ne hne _).set_ne hne _
theorem BoxQ.other {W : World} {B C : Nat} {x y u v : Value} (h : BoxQ W B x y u v) (hne : C ≠ B) (x' y' : Value) : BoxQ ((W.setCell ⟨C, 0, none⟩ x').setCell ⟨C, 1, none⟩ y') B x y u v := (h.set_ne hne _).set_ne hne _
def BoxR (W : World) (B : Nat) (x y : Value) : Prop := Box2 W B 57 x y
theorem BoxR.cell0 {W : World} {B : Nat} {x y : Value} (h : BoxR W B x y) : W.cell? ⟨B, 0, none⟩ = some x := Box2.cell0 h
theorem BoxR.cell1 {W : World} {B : Nat} {x y : Value} (h : BoxR W B x y) : W.cell? ⟨B, 1, none⟩ = some y := Box2.cell1 h
theorem BoxR.free {W : World} {B : Nat} {x y : Value} (h : BoxR W B x y) (o : Nat) : W.frozen? ⟨B, o, none⟩ = false := Box2.free h o
theorem BoxR.lt {W : World} {B : Nat} {x y : Value} (h : BoxR W B x y) : B < W.heap.size := Box2.lt h
theorem BoxR.step {W W' : World} {B : Nat} {x y : Value} (h : BoxR W B x y) (hb : Below W.heap.size W W') : BoxR W' B x y := Box2.step h hb
theorem BoxR.drew {W : World} {B : Nat} {x y : Value} (h : BoxR W B x y) : BoxR W.drew B x y := h
theorem BoxR.new (W : World) (x y : Value) : BoxR (W.alloc (.cells #[x, y] 57)) W.heap.size x y := Box2.new W _ x y
theorem BoxR.put {W : World} {B : Nat} {x y : Value} (h : BoxR W B x y) (x' y' : Value) : BoxR ((W.setCell ⟨B, 0, none⟩ x').setCell ⟨B, 1, none⟩ y') B x' y' := (Box2.set0 h x').set1 y'
theorem BoxR.other {W : World} {B C : Nat} {x y : Value} (h : BoxR W B x y) (hne : C ≠ B) (x' y' : Value) : BoxR ((W.setCell ⟨C, 0, none⟩ x').setCell ⟨C, 1, none⟩ y') B x y := (Box2.set_ne h hne _).set_ne hne _
theorem BoxR.other4 {W : World} {B C : Nat} {x y : Value} (h : BoxR W B x y) (hne : C ≠ B) (x' y' u' v' : Value) : BoxR ((((W.setCell ⟨C, 0, none⟩ x').setCell ⟨C, 1, none⟩ y').setCell ⟨C, 2, none⟩ u').setCell ⟨C, 3, none⟩ v') B x y := (((Box2.set_ne h hne _).set_ne hne _).set_ne hne _).set_ne hne _
theorem BoxR.keeps {W : World} {B : Nat} {x y : Value} (h : BoxR W B x y) (hx : ∀ z, x ≠ .int .u32 z) (hy : ∀ z, y ≠ .int .u32 z) (x' y' : Value) : Spares W ((W.setCell ⟨B, 0, none⟩ x').setCell ⟨B, 1, none⟩ y') :=
  (Spares.set h.cell0 hx x').trans (Spares.set (Box2.set0 h x').cell1 hy y')
/-- the struct of a fraction in lowest terms -/
def RQ (w : World) (v : Value) (q : Rat) : Prop :=
  ∃ s m n c s' m' n' c', v = .agg #[.bool s, .slice m n c, .bool s', .slice m' n' c'] ∧ RInt w (.agg #[.bool s, .slice m n c]) q.num ∧ RInt w (.agg #[.bool s', .slice m' n' c']) (q.den : Int)
theorem RQ.below {w w' : World} {v : Value} {q : Rat} (h : RQ w v q) (hb : Below w.heap.size w w') : RQ w' v q := by
  obtain ⟨s, m, n, c, s', m', n', c', rfl, h1, h2⟩ := h
  exact ⟨s, m, n, c, s', m', n', c', rfl, h1.below hb, h2.below hb⟩
theorem RQ.keep {w w' : World} {v : Value} {q : Rat} (h : RQ w v q) (k : Spares w w') : RQ w' v q := by
  obtain ⟨s, m, n, c, s', m', n', c', rfl, h1, h2⟩ := h
  exact ⟨s, m, n, c, s', m', n', c', rfl, h1.keep k, h2.keep k⟩
theorem RQ.drew {w : World} {v : Value} {q : Rat} (h : RQ w v q) : RQ w.drew v q := h
theorem RQ.cells {w : World} {v : Value} {q : Rat} (h : RQ w v q) : ∃ s m n c s' m' n' c', v = .agg #[.bool s, .slice m n c, .bool s', .slice m' n' c'] ∧ RQ w (.agg #[.bool s, .slice m n c, .bool s', .slice m' n' c']) q := by
  have h' := h
  obtain ⟨s, m, n, c, s', m', n', c', rfl, _, _⟩ := h'
  exact ⟨s, m, n, c, s', m', n', c', rfl, h⟩
theorem RQ.num {w : World} {s s' : Bool} {m m' : Option Addr} {n c n' c' : Nat} {q : Rat} (h : RQ w (.agg #[.bool s, .slice m n c, .bool s', .slice m' n' c']) q) : RInt w (.agg #[.bool s, .slice m n c]) q.num := by
  obtain ⟨_, _, _, _, _, _, _, _, e, h1, h2⟩ := h
  simp only [Value.agg.injEq, Array.mk.injEq, List.cons.injEq, Value.bool.injEq, Value.slice.injEq, and_true] at e
  obtain ⟨rfl, ⟨rfl, rfl, rfl⟩, rfl, rfl, rfl, rfl⟩ := e
  exact h1
theorem RQ.den {w : World} {s s' : Bool} {m m' : Option Addr} {n c n' c' : Nat} {q : Rat} (h : RQ w (.agg #[.bool s, .slice m n c, .bool s', .slice m' n' c']) q) : RInt w (.agg #[.bool s', .slice m' n' c']) (q.den : Int) := by
  obtain ⟨_, _, _, _, _, _, _, _, e, h1, h2⟩ := h
  simp only [Value.agg.injEq, Array.mk.injEq, List.cons.injEq, Value.bool.injEq, Value.slice.injEq, and_true] at e
  obtain ⟨rfl, ⟨rfl, rfl, rfl⟩, rfl, rfl, rfl, rfl⟩ := e
  exact h2

end Go.Proofs.Ytgkibmigbjjnnaa

namespace Go.Proofs.Ytgkibmigbjjnnaa
open Go.RowKit

/-- a struct of four cells stands for a fraction: carried over by whatever leaves all limbs -/
structure Fam (P : World → Value → Rat → Prop) : Prop where
  below : ∀ {w w' : World} {v : Value} {q : Rat}, P w v q → Below w.heap.size w w' → P w' v q
  keep : ∀ {w w' : World} {v : Value} {q : Rat}, P w v q → Spares w w' → P w' v q
theorem famA : Fam RatAt := ⟨fun h hb => h.below hb, fun h k => h.keep k⟩
theorem famQ : Fam RQ := ⟨fun h hb => h.below hb, fun h k => h.keep k⟩

/-- a list of fractions in memory -/
def ListQ (P : World → Value → Rat → Prop) (w : World) (v : Value) (qs : List Rat) : Prop :=
  ∃ a cap, v = .slice a qs.length cap ∧ qs.length ≤ cap ∧ cap ≤ maxLen ∧ (qs ≠ [] → ∃ b off, a = some ⟨b, off, none⟩ ∧
    ∀ i, i < qs.length → ∃ s m n c s' m' n' c', w.cell? ⟨b, off + i * 4, none⟩ = some (.bool s) ∧ w.cell? ⟨b, off + i * 4 + 1, none⟩ = some (.slice m n c) ∧ w.cell? ⟨b, off + i * 4 + 2, none⟩ = some (.bool s') ∧ w.cell? ⟨b, off + i * 4 + 3, none⟩ = some (.slice m' n' c') ∧ P w (.agg #[.bool s, .slice m n c, .bool s', .slice m' n' c']) (qs.getD i 0))
theorem ListQ.below {P : World → Value → Rat → Prop} (hP : Fam P) {w w' : World} {v : Value} {qs : List Rat} (h : ListQ P w v qs) (hb : Below w.heap.size w w') : ListQ P w' v qs := by
  obtain ⟨a, cap, rfl, h1, h2, h3⟩ := h
  refine ⟨a, cap, rfl, h1, h2, fun hx => ?_⟩
  obtain ⟨b, off, rfl, hc⟩ := h3 hx
  refine ⟨b, off, rfl, fun i hi => ?_⟩
  obtain ⟨s, m, n, c, s', m', n', c', k1, k2, k3, k4, k5⟩ := hc i hi
  exact ⟨s, m, n, c, s', m', n', c', (hb.cell (World.block_lt_of_cell? w _ k1)).trans k1, (hb.cell (World.block_lt_of_cell? w _ k2)).trans k2, (hb.cell (World.block_lt_of_cell? w _ k3)).trans k3, (hb.cell (World.block_lt_of_cell? w _ k4)).trans k4, hP.below k5 hb⟩
/-- four cells of a fraction -/
def Cell4 (w : World) (b off : Nat) (x y u v : Value) : Prop := w.cell? ⟨b, off, none⟩ = some x ∧ w.cell? ⟨b, off + 1, none⟩ = some y ∧ w.cell? ⟨b, off + 2, none⟩ = some u ∧ w.cell? ⟨b, off + 3, none⟩ = some v
theorem Cell4.lt {w : World} {b off : Nat} {x y u v : Value} (h : Cell4 w b off x y u v) : b < w.heap.size := World.block_lt_of_cell? w _ h.1
theorem Cell4.step {w w' : World} {b off : Nat} {x y u v : Value} (h : Cell4 w b off x y u v) (hb : Below w.heap.size w w') : Cell4 w' b off x y u v :=
  ⟨(hb.cell h.lt).trans h.1, (hb.cell h.lt).trans h.2.1, (hb.cell h.lt).trans h.2.2.1, (hb.cell h.lt).trans h.2.2.2⟩
theorem Cell4.cell0 {w : World} {b off : Nat} {x y u v : Value} (h : Cell4 w b off x y u v) : w.cell? ⟨b, off, none⟩ = some x := h.1
theorem Cell4.cell1 {w : World} {b off : Nat} {x y u v : Value} (h : Cell4 w b off x y u v) : w.cell? ⟨b, off + 1, none⟩ = some y := h.2.1
theorem Cell4.cell2 {w : World} {b off : Nat} {x y u v : Value} (h : Cell4 w b off x y u v) : w.cell? ⟨b, off + 2, none⟩ = some u := h.2.2.1
theorem Cell4.cell3 {w : World} {b off : Nat} {x y u v : Value} (h : Cell4 w b off x y u v) : w.cell? ⟨b, off + 3, none⟩ = some v := h.2.2.2
theorem ListQ.at {P : World → Value → Rat → Prop} {w : World} {a : Option Addr} {n cap : Nat} {qs : List Rat} (h : ListQ P w (.slice a n cap) qs) {i : Nat} (hi : i < qs.length) :
    ∃ b off, a = some ⟨b, off, none⟩ ∧ ∃ s m l c s' m' l' c', Cell4 w b (off + i * 4) (.bool s) (.slice m l c) (.bool s') (.slice m' l' c') ∧ P w (.agg #[.bool s, .slice m l c, .bool s', .slice m' l' c']) (qs.getD i 0) := by
  obtain ⟨a', c', he, _, _, h3⟩ := h
  simp only [Value.slice.injEq] at he
  obtain ⟨rfl, _, rfl⟩ := he
  obtain ⟨b, off, rfl, h⟩ := h3 (by intro e; rw [e] at hi; simp at hi)
  obtain ⟨s, m, n, c, s', m', n', c', k1, k2, k3, k4, k5⟩ := h i hi
  exact ⟨b, off, rfl, s, m, n, c, s', m', n', c', ⟨k1, k2, k3, k4⟩, k5⟩

/-- a list of one's own, four cells an element, of which no cell holds a limb -/
def Own4 (w : World) (base : Nat) (e : TypeId) (v : Value) (n : Nat) (xs : List Value) : Prop :=
  w.ownsRow base e 4 v n xs ∧ ∀ g cur t fr, v.ownBlock = some g → w.heap[g]? = some (.cells cur t fr) → ∀ c ∈ cur.toList, ∀ z, c ≠ .int .u32 z
theorem Own4.nil (w : World) (base : Nat) (e : TypeId) : Own4 w base e (.slice none 0 0) 0 [] := ⟨World.ownsRow_nil _ _ _ _, fun g cur t fr h => by cases h⟩
theorem Own4.below {w w' : World} {base : Nat} {e : TypeId} {v : Value} {n : Nat} {xs : List Value} (h : Own4 w base e v n xs) (hb : Below w.heap.size w w') : Own4 w' base e v n xs := by
  obtain ⟨⟨hl, h1⟩, h2⟩ := h
  refine ⟨⟨hl, ?_⟩, fun g cur t fr hg hh => h2 g cur t fr hg ?_⟩
  · rcases h1 with h0 | ⟨g, cap, cur, rfl, hg, hh, r⟩
    · exact .inl h0
    · exact .inr ⟨g, cap, cur, rfl, hg, by rw [hb.block g (Array.getElem?_eq_some_iff.1 hh).1]; exact hh, r⟩
  · rcases h1 with ⟨rfl, _⟩ | ⟨g', cap, cur', rfl, _, hh', r⟩
    · cases hg
    · have e : g' = g := by simpa [Value.ownBlock] using hg
      subst e
      rw [← hb.block g' (Array.getElem?_eq_some_iff.1 hh').1]; exact hh
theorem Own4.spares {w w' : World} {base : Nat} {e : TypeId} {v : Value} {n : Nat} {xs : List Value} (h : Own4 w base e v n xs) (hg : w.grownBy w' v.ownBlock) : Spares w w' := by
  intro u ys hn
  obtain ⟨ho, a, cap, rfl, h1, h2, h3⟩ := hn
  refine ⟨ho, a, cap, rfl, h1, h2, fun hx => ?_⟩
  obtain ⟨b, off, rfl, hcell⟩ := h3 hx
  refine ⟨b, off, rfl, fun i hi => hg.cell (hcell i hi) fun e => ?_⟩
  have hc := hcell i hi
  cases hb : w.heap[b]? with
  | none => simp [World.cell?, hb] at hc
  | some ob =>
    cases ob with
    | cells cur t fr =>
      have hc' : cur[off + i]? = some (.int .u32 (lm ys i)) := by simpa [World.cell?, hb, lm] using hc
      have hm : (Value.int .u32 (lm ys i)) ∈ cur.toList := by
        rw [← Array.getElem?_toList] at hc'
        exact List.mem_of_getElem? hc'
      exact h.2 b cur t fr e.symm hb _ hm _ rfl
    | _ => simp [World.cell?, hb] at hc
/-- the elements of a list of one's own -/
def Elems (P : World → Value → Rat → Prop) (w : World) (xs : List Value) (qs : List Rat) : Prop :=
  ∀ i, i < qs.length → ∃ s m n c s' m' n' c', xs[i * 4]? = some (.bool s) ∧ xs[i * 4 + 1]? = some (.slice m n c) ∧ xs[i * 4 + 2]? = some (.bool s') ∧ xs[i * 4 + 3]? = some (.slice m' n' c') ∧ P w (.agg #[.bool s, .slice m n c, .bool s', .slice m' n' c']) (qs.getD i 0)
/-- a list of one's own that holds these fractions -/
def ListG (P : World → Value → Rat → Prop) (T : TypeId) (w : World) (base : Nat) (v : Value) (qs : List Rat) : Prop :=
  ∃ xs, Own4 w base T v qs.length xs ∧ Elems P w xs qs
theorem ListG.nil (P : World → Value → Rat → Prop) (T : TypeId) (w : World) (base : Nat) : ListG P T w base (.slice none 0 0) [] := ⟨[], Own4.nil _ _ _, fun _ hi => absurd hi (Nat.not_lt_zero _)⟩
theorem Elems.keep {P : World → Value → Rat → Prop} (hP : Fam P) {w w' : World} {xs : List Value} {qs : List Rat} (h : Elems P w xs qs) (k : Spares w w') : Elems P w' xs qs := fun i hi => by
  obtain ⟨s, m, n, c, s', m', n', c', k1, k2, k3, k4, k5⟩ := h i hi
  exact ⟨s, m, n, c, s', m', n', c', k1, k2, k3, k4, hP.keep k5 k⟩
theorem ListG.below {P : World → Value → Rat → Prop} (hP : Fam P) {T : TypeId} {w w' : World} {base : Nat} {v : Value} {qs : List Rat} (h : ListG P T w base v qs) (hb : Below w.heap.size w w') : ListG P T w' base v qs := by
  obtain ⟨xs, h1, h2⟩ := h
  refine ⟨xs, h1.below hb, fun i hi => ?_⟩
  obtain ⟨s, m, n, c, s', m', n', c', k1, k2, k3, k4, k5⟩ := h2 i hi
  exact ⟨s, m, n, c, s', m', n', c', k1, k2, k3, k4, hP.below k5 hb⟩
theorem ListG.app {P : World → Value → Rat → Prop} (hP : Fam P) {T : TypeId} {w w' : World} {base : Nat} {v v' : Value} {qs : List Rat} {xs : List Value} {s s' : Bool} {m m' : Option Addr} {n c n' c' : Nat} {q : Rat} (h1 : Own4 w base T v qs.length xs)
    (h2 : Elems P w xs qs) (hz : P w (.agg #[.bool s, .slice m n c, .bool s', .slice m' n' c']) q)
    (ho : Own4 w' base T v' (qs.length + 1) (xs ++ [.bool s, .slice m n c, .bool s', .slice m' n' c'])) (hg : w.grownBy w' v.ownBlock) : ListG P T w' base v' (qs ++ [q]) := by
  have hk := h1.spares hg
  have hl : xs.length = qs.length * 4 := h1.1.1
  refine ⟨xs ++ [.bool s, .slice m n c, .bool s', .slice m' n' c'], by rw [List.length_append]; exact ho, fun i hi => ?_⟩
  rw [List.length_append, List.length_singleton] at hi
  rcases Nat.lt_or_ge i qs.length with h | h
  · obtain ⟨s2, m2, n2, c2, s2', m2', n2', c2', k1, k2, k3, k4, k5⟩ := h2 i h
    refine ⟨s2, m2, n2, c2, s2', m2', n2', c2', ?_, ?_, ?_, ?_, ?_⟩
    · rw [List.getElem?_append_left (by omega)]; exact k1
    · rw [List.getElem?_append_left (by omega)]; exact k2
    · rw [List.getElem?_append_left (by omega)]; exact k3
    · rw [List.getElem?_append_left (by omega)]; exact k4
    · rw [List.getD_eq_getElem?_getD, List.getElem?_append_left h, ← List.getD_eq_getElem?_getD]; exact hP.keep k5 hk
  · have e : i = qs.length := by omega
    subst e
    refine ⟨s, m, n, c, s', m', n', c', ?_, ?_, ?_, ?_, ?_⟩
    · rw [List.getElem?_append_right (by omega), hl, Nat.sub_self]; rfl
    · rw [List.getElem?_append_right (by omega), hl, show qs.length * 4 + 1 - qs.length * 4 = 1 by omega]; rfl
    · rw [List.getElem?_append_right (by omega), hl, show qs.length * 4 + 2 - qs.length * 4 = 2 by omega]; rfl
    · rw [List.getElem?_append_right (by omega), hl, show qs.length * 4 + 3 - qs.length * 4 = 3 by omega]; rfl
    · rw [List.getD_eq_getElem?_getD, List.getElem?_append_right (Nat.le_refl _), Nat.sub_self]; exact hP.keep hz hk
theorem ListG.other {P : World → Value → Rat → Prop} (hP : Fam P) {T : TypeId} {w w' : World} {base : Nat} {v : Value} {qs : List Rat} {r : Option Nat} (h : ListG P T w base v qs) (hg : w.grownBy w' r) (hs : Spares w w') (hr : ∀ g, v.ownBlock = some g → r ≠ some g) : ListG P T w' base v qs := by
  obtain ⟨xs, ⟨⟨hl, h1⟩, h2⟩, h3⟩ := h
  refine ⟨xs, ⟨⟨hl, ?_⟩, fun g cur t fr hgb hh => h2 g cur t fr hgb ?_⟩, h3.keep hP hs⟩
  · rcases h1 with h0 | ⟨g, cap, cur, rfl, hbg, hh, q⟩
    · exact .inl h0
    · exact .inr ⟨g, cap, cur, rfl, hbg, by rw [hg.block g (Array.getElem?_eq_some_iff.1 hh).1 (Ne.symm (hr g rfl))]; exact hh, q⟩
  · rcases h1 with ⟨rfl, _⟩ | ⟨g', cap, cur', rfl, _, hh', q⟩
    · cases hgb
    · have e : g' = g := by simpa [Value.ownBlock] using hgb
      subst e
      rw [← hg.block g' (Array.getElem?_eq_some_iff.1 hh').1 (Ne.symm (hr g' rfl))]; exact hh
theorem ListG.lt {P : World → Value → Rat → Prop} {T : TypeId} {w : World} {base : Nat} {v : Value} {qs : List Rat} (h : ListG P T w base v qs) {g : Nat} (hg : v.ownBlock = some g) : base ≤ g ∧ g < w.heap.size := by
  obtain ⟨xs, h1, _⟩ := h
  exact h1.1.lt g hg
theorem ListG.list {P : World → Value → Rat → Prop} {T : TypeId} {w : World} {base : Nat} {v : Value} {qs : List Rat} (h : ListG P T w base v qs) : ListQ P w v qs := by
  obtain ⟨xs, ⟨⟨hl, h1⟩, _⟩, h3⟩ := h
  rcases h1 with ⟨rfl, h0⟩ | ⟨g, cap, cur, rfl, hbg, hh, hn, hm, hc, ht⟩
  · have : qs = [] := List.eq_nil_of_length_eq_zero h0
    subst this
    exact ⟨none, 0, rfl, Nat.le_refl _, Nat.zero_le _, fun h => absurd rfl h⟩
  · refine ⟨_, cap, rfl, hn, hm, fun _ => ⟨g, 0, rfl, fun i hi => ?_⟩⟩
    obtain ⟨s, m, n, c, s', m', n', c', k1, k2, k3, k4, k5⟩ := h3 i hi
    have at' : ∀ j x, xs[j]? = some x → w.cell? ⟨g, j, none⟩ = some x := by
      intro j x hj
      have hjl : j < xs.length := (List.getElem?_eq_some_iff.1 hj).1
      rw [← ht, List.getElem?_take, if_pos (by omega)] at hj
      unfold World.cell?
      simp only [hh]
      rwa [← Array.getElem?_toList]
    exact ⟨s, m, n, c, s', m', n', c', by rw [Nat.zero_add]; exact at' _ _ k1, by rw [Nat.zero_add]; exact at' _ _ k2, by rw [Nat.zero_add]; exact at' _ _ k3, by rw [Nat.zero_add]; exact at' _ _ k4, k5⟩

theorem getD_ltQ {α : Type} (l : List α) (d : α) (i : Nat) (h : i < l.length) : l.getD i d = l[i] := by simp [List.getD_eq_getElem?_getD, h]
/-- the sum of fractions, from the first on -/
def sumQ (qs : List Rat) : Rat := qs.foldl (· + ·) 0
theorem sumQ_snoc (qs : List Rat) (q : Rat) : sumQ (qs ++ [q]) = sumQ qs + q := by simp [sumQ]
theorem takeQ_snoc (qs : List Rat) (k : Nat) (h : k < qs.length) : qs.take (k + 1) = qs.take k ++ [qs.getD k 0] := by
  rw [List.take_succ_eq_append_getElem h, getD_ltQ _ _ _ h]
theorem sumQ_take (qs : List Rat) (k : Nat) (h : k < qs.length) : sumQ (qs.take (k + 1)) = sumQ (qs.take k) + qs.getD k 0 := by rw [takeQ_snoc qs k h, sumQ_snoc]
/-- all of them small -/
def AllSz (qs : List Rat) : Prop := qs.length ≤ 12 ∧ ∀ i, i < qs.length → SzR 300 (qs.getD i 0)
theorem sumQ_sz (qs : List Rat) (h : AllSz qs) : ∀ k, k ≤ qs.length → SzR (301 * k + 1) (sumQ (qs.take k)) := by
  intro k
  induction k with
  | zero => intro _; exact ⟨SzI.zero.mono (by omega), SzI.one.mono (by omega)⟩
  | succ k ih =>
    intro hk
    rw [sumQ_take qs k (by omega)]
    exact ((ih (by omega)).add (h.2 k (by omega))).mono (by omega)
theorem sumQ_sz5 (qs : List Rat) (h : AllSz qs) (k : Nat) (hk : k ≤ qs.length) : SzR 4000 (sumQ (qs.take k)) := (sumQ_sz qs h k hk).mono (by have := h.1; omega)

/-- the least number that all denominators divide, as both reckon it -/
def lcmQ (qs : List Rat) : Int := qs.foldl (fun d q => d * ((q.den : Int) / (Int.gcd d q.den : Int))) 1
theorem lcmQ_snoc (qs : List Rat) (q : Rat) : lcmQ (qs ++ [q]) = lcmQ qs * ((q.den : Int) / (Int.gcd (lcmQ qs) q.den : Int)) := by simp [lcmQ]
theorem lcmQ_take (qs : List Rat) (k : Nat) (h : k < qs.length) : lcmQ (qs.take (k + 1)) = lcmQ (qs.take k) * (((qs.getD k 0).den : Int) / (Int.gcd (lcmQ (qs.take k)) (qs.getD k 0).den : Int)) := by rw [takeQ_snoc qs k h, lcmQ_snoc]
theorem gcdQ_ne (d : Int) (q : Rat) : (Int.gcd d q.den : Int) ≠ 0 := by
  intro h
  have h1 : Int.gcd d q.den = 0 := by omega
  have h2 := (Int.gcd_eq_zero_iff.1 h1).2
  have := q.den_nz
  omega
theorem SzI.quoQ {k : Nat} {x : Int} (h : SzI k x) (y : Int) : SzI k (x / y) := Nat.lt_of_le_of_lt (Int.natAbs_ediv_le_natAbs x y) h
theorem lcmQ_sz (qs : List Rat) (h : AllSz qs) : ∀ k, k ≤ qs.length → SzI (300 * k + 1) (lcmQ (qs.take k)) := by
  intro k
  induction k with
  | zero => intro _; exact SzI.one.mono (by omega)
  | succ k ih =>
    intro hk
    rw [lcmQ_take qs k (by omega)]
    exact ((ih (by omega)).mul ((h.2 k (by omega)).den.quoQ _)).mono (by omega)
theorem lcmQ_sz5 (qs : List Rat) (h : AllSz qs) (k : Nat) (hk : k ≤ qs.length) : SzI 4000 (lcmQ (qs.take k)) := (lcmQ_sz qs h k hk).mono (by have := h.1; omega)
/-- each over that number -/
def comQ (qs : List Rat) : List Int := qs.map fun q => q.num * (lcmQ qs / (q.den : Int))
theorem comQ_len (qs : List Rat) : (comQ qs).length = qs.length := by simp [comQ]
theorem comQ_at (qs : List Rat) (k : Nat) (h : k < qs.length) : (comQ qs).getD k 0 = (qs.getD k 0).num * (lcmQ qs / ((qs.getD k 0).den : Int)) := by
  rw [getD_ltQ _ _ _ (by rw [comQ_len]; exact h), getD_ltQ _ _ _ h]
  simp [comQ]
theorem comQ_take (qs : List Rat) (k : Nat) (h : k < qs.length) : (comQ qs).take (k + 1) = (comQ qs).take k ++ [(qs.getD k 0).num * (lcmQ qs / ((qs.getD k 0).den : Int))] := by
  have h' : k < (comQ qs).length := by rw [comQ_len]; exact h
  rw [List.take_succ_eq_append_getElem h', ← comQ_at qs k h, getD_ltQ _ _ _ h']
theorem gcdQ_sz {k : Nat} {q : Rat} (h : SzI k (q.den : Int)) (d : Int) : SzI k (Int.gcd d q.den : Int) :=
  h.dvd (Int.gcd_dvd_right ..) (fun e => absurd (show q.den = 0 by omega) q.den_nz)
theorem Cell4.set {w : World} {b off : Nat} {x y u v : Value} (h : Cell4 w b off x y u v) {C o : Nat} (hne : C ≠ b) (c : Value) : Cell4 (w.setCell ⟨C, o, none⟩ c) b off x y u v := by
  have key : ∀ i z, w.cell? ⟨b, i, none⟩ = some z → (w.setCell ⟨C, o, none⟩ c).cell? ⟨b, i, none⟩ = some z := by
    intro i z hz
    have e : (w.setCell ⟨C, o, none⟩ c).heap[b]? = w.heap[b]? := by
      show (w.heap.modify C _)[b]? = _
      rw [Array.getElem?_modify, if_neg hne]
    unfold World.cell? at hz ⊢
    simp only [e]
    exact hz
  exact ⟨key _ _ h.1, key _ _ h.2.1, key _ _ h.2.2.1, key _ _ h.2.2.2⟩
theorem Cell4.grown {w w' : World} {r : Option Nat} {b off : Nat} {x y u v : Value} (h : Cell4 w b off x y u v) (hg : w.grownBy w' r) (hne : r ≠ some b) : Cell4 w' b off x y u v :=
  ⟨hg.cell h.1 (fun e => hne e.symm), hg.cell h.2.1 (fun e => hne e.symm), hg.cell h.2.2.1 (fun e => hne e.symm), hg.cell h.2.2.2 (fun e => hne e.symm)⟩
def RatL (w : World) (v : Value) (qs : List Rat) : Prop := ListQ RatAt w v qs
def RQL (w : World) (v : Value) (qs : List Rat) : Prop := ListQ RQ w v qs
theorem RatL.below {w w' : World} {v : Value} {qs : List Rat} (h : RatL w v qs) (hb : Below w.heap.size w w') : RatL w' v qs := ListQ.below famA h hb
theorem RQL.below {w w' : World} {v : Value} {qs : List Rat} (h : RQL w v qs) (hb : Below w.heap.size w w') : RQL w' v qs := ListQ.below famQ h hb
theorem RatL.drew {w : World} {v : Value} {qs : List Rat} (h : RatL w v qs) : RatL w.drew v qs := h
theorem RQL.drew {w : World} {v : Value} {qs : List Rat} (h : RQL w v qs) : RQL w.drew v qs := h
theorem Cell4.drew {w : World} {b off : Nat} {x y u v : Value} (h : Cell4 w b off x y u v) : Cell4 w.drew b off x y u v := h
end Go.Proofs.Ytgkibmigbjjnnaa

namespace Go.Proofs.Ytgkibmigbjjnnaa
open Go.RowKit

end Go.Proofs.Ytgkibmigbjjnnaa

namespace Go.Proofs.Ytgkibmigbjjnnaa
open Go.RowKit

end Go.Proofs.Ytgkibmigbjjnnaa

namespace Go.Proofs.Ytgkibmigbjjnnaa
open Go.RowKit

end Go.Proofs.Ytgkibmigbjjnnaa

namespace Go.Proofs.Ytgkibmigbjjnnaa
open Go.RowKit

theorem zero_rat (w : World) : RatAt w (.agg #[.bool false, .slice none 0 0, .bool false, .slice none 0 0]) 0 :=
  ⟨false, none, 0, 0, false, none, 0, 0, rfl, int_zero0 w, int_zero0 w⟩
set_option maxRecDepth 100000 in
set_option maxHeartbeats 8000000 in
theorem rtsum_any (v : Value) (qs : List Rat) (w : World) (h : RatL w v qs) (hs : AllSz qs) :
    Calls Try.prog 23 #[v] w fun e w' => ∃ v', e = .returned v' ∧ RatAt w' v' (sumQ qs) ∧ Below w.heap.size w w' := by
  have HL := hide h
  have HS := hide hs
  obtain ⟨a, cap, rfl, hcap, hm, _⟩ := h
  unfold maxLen at hm
  clear hs
  obtain ⟨N, hN⟩ : ∃ N, qs.length = N := ⟨_, rfl⟩
  have HN := hide hN
  rw [hN] at hcap HL ⊢
  clear hN
  have R0 := Box4.new w (.bool false) (.slice none 0 0) (.bool false) (.slice none 0 0)
  replace R0 := R0.step (below_alloc _ (.cells #[.bool false, .slice none 0 0, .bool false, .slice none 0 0] 27))
  replace R0 := hide R0
  have P1 := Box4.new (w.alloc (.cells #[.bool false, .slice none 0 0, .bool false, .slice none 0 0] 27)) (.bool false) (.slice none 0 0) (.bool false) (.slice none 0 0)
  simp only [World.size_alloc] at P1
  replace P1 := hide P1
  have HB := below_alloc w (.cells #[.bool false, .slice none 0 0, .bool false, .slice none 0 0] 27)
  replace HB := HB.trans ((below_alloc _ (.cells #[.bool false, .slice none 0 0, .bool false, .slice none 0 0] 27)).mono (by simp only [World.size_alloc]; omega))
  replace HB := hide HB
  go_enter Try.func23, Try.ntmps23
  go_wp2
  generalize ((w.alloc (.cells #[.bool false, .slice none 0 0, .bool false, .slice none 0 0] 27)).alloc (.cells #[.bool false, .slice none 0 0, .bool false, .slice none 0 0] 27)) = w0 at *
  have LT1 : Hid (w.heap.size < w.heap.size + 1) := hide (by omega)
  have I1 : Hid (RatAt w0 (.agg #[.bool false, .slice none 0 0, .bool false, .slice none 0 0]) (sumQ (qs.take 0))) := hide (zero_rat w0)
  go_loopw [5, 9] (fun _ iv wr => ∃ (k : Nat) (s1 : Bool) (m1 : Option Addr) (n1 c1 : Nat) (t1 : Bool) (o1 : Option Addr) (p1 d1 : Nat), k ≤ N ∧ iv = .int .i64 k ∧ Below w.heap.size w wr ∧ Hid (Box4 wr w.heap.size (.bool false) (.slice none 0 0) (.bool false) (.slice none 0 0)) ∧ Hid (Box4 wr (w.heap.size + 1) (.bool s1) (.slice m1 n1 c1) (.bool t1) (.slice o1 p1 d1)) ∧ Hid (RatAt wr (.agg #[.bool s1, .slice m1 n1 c1, .bool t1, .slice o1 p1 d1]) (sumQ (qs.take k)))) (fun _ iv _ => N - (intOf iv).toNat)
  case atStart => exact ⟨0, false, none, 0, 0, false, none, 0, 0, Nat.zero_le _, rfl, HB.out, R0, P1, I1⟩
  case round =>
    clear HB R0 P1 I1
    obtain ⟨k, s1, m1, n1, c1, t1, o1, p1, d1, hk, rfl, hb, R0, P1, I1⟩ := hrel
    have HB := hide hb
    have LQ := hide (HL.out.below hb)
    clear hb
    by_cases hlt : k < N
    · have HLT : Hid (k < qs.length) := hide (by rw [HN.out]; exact hlt)
      obtain ⟨b, off, rfl, s2, m2, n2, c2, t2, o2, p2, d2, hc, hi⟩ := LQ.out.at HLT.out
      have hbw : b < w.heap.size := by
        obtain ⟨b', off', e, s', m', l', c', t', o', p', d', hq, _⟩ := HL.out.at HLT.out
        simp only [Option.some.injEq, Addr.mk.injEq] at e
        rw [e.1]; exact hq.lt
      have BL := hide hbw
      have C2 := hide hc
      have I2 := hide hi
      clear hbw hc hi LQ
      have hltI : (k : Int) < (N : Int) := by omega
      have S1 := hide ((sumQ_sz5 qs HS.out k (Nat.le_of_lt HLT.out)).mono (show 4000 ≤ 100000 by decide))
      have S2 := hide ((HS.out.2 k HLT.out).mono (show 300 ≤ 100000 by decide))
      have q0 := C2.out.cell0
      have q1 := C2.out.cell1
      have q2 := C2.out.cell2
      have q3 := C2.out.cell3
      go_upto_region 5 with fail
      clear q0 q1 q2 q3 C2
      have al := below_alloc wr (.cells #[.bool s2, .slice m2 n2 c2, .bool t2, .slice o2 p2 d2] 27)
      replace HB := hide (HB.out.trans ((al).mono HB.out.size))
      replace R0 := hide (R0.out.step (al))
      replace P1 := hide (P1.out.step (al))
      replace I1 := hide (I1.out.below (al))
      replace I2 := hide (I2.out.below (al))
      have V2 := hide (Box4.new wr (.bool s2) (.slice m2 n2 c2) (.bool t2) (.slice o2 p2 d2))
      clear al
      generalize wr.alloc (.cells #[.bool s2, .slice m2 n2 c2, .bool t2, .slice o2 p2 d2] 27) = wra at *
      generalize wr.heap.size = g2 at *
      have hP10 := P1.out.cell0
      have hP11 := P1.out.cell1
      have hP12 := P1.out.cell2
      have hP13 := P1.out.cell3
      have hV20 := V2.out.cell0
      have hV21 := V2.out.cell1
      have hV22 := V2.out.cell2
      have hV23 := V2.out.cell3
      go_wp2_with fail
      clear hP10 hP11 hP12 hP13
      clear hV20 hV21 hV22 hV23
      refine (rtadd_any _ _ (sumQ (qs.take k)) (qs.getD k 0) _ I1.out I2.out (S1.out.mono (by decide)) (S2.out.mono (by decide))).mono ?_
      rintro e u2 ⟨v, rfl, kx, hb⟩
      obtain ⟨s3, m3, n3, c3, t3, o3, p3, d3, rfl, ky⟩ := kx.cells
      replace HB := hide (HB.out.trans ((hb).mono HB.out.size))
      replace R0 := hide (R0.out.step (hb))
      replace P1 := hide (P1.out.step (hb))
      replace I1 := hide (I1.out.below (hb))
      replace I2 := hide (I2.out.below (hb))
      replace V2 := hide (V2.out.step (hb))
      have I3 := hide (ky)
      clear hb kx ky
      have hP10 := P1.out.cell0
      have hP11 := P1.out.cell1
      have hP12 := P1.out.cell2
      have hP13 := P1.out.cell3
      have fP10 := P1.out.free 0
      have fP11 := P1.out.free 1
      have fP12 := P1.out.free 2
      have fP13 := P1.out.free 3
      go_wp2
      go_roundw
      case rel => exact ⟨k + 1, s3, m3, n3, c3, t3, o3, p3, d3, by omega, by go_num, below_put4 HB.out (by have hx := LT1.out; omega) _ _ _ _, hide (R0.out.other4 (by have hx := LT1.out; omega) _ _ _ _), hide (P1.out.put _ _ _ _), hide (by rw [sumQ_take qs k HLT.out]; exact I3.out.keep (P1.out.keeps (by simp) (by simp) (by simp) (by simp) _ _ _ _))⟩
      case measure => simp [intOf]; omega
    · have e : k = N := by omega
      subst e
      have IA : Hid (RatAt wr (.agg #[.bool s1, .slice m1 n1 c1, .bool t1, .slice o1 p1 d1]) (sumQ qs)) := hide (by have hh := I1.out; rw [(show qs.take k = qs from List.take_of_length_le (by rw [HN.out]; exact Nat.le_refl _))] at hh; exact hh)
      have hP10 := P1.out.cell0
      have hP11 := P1.out.cell1
      have hP12 := P1.out.cell2
      have hP13 := P1.out.cell3
      have hR00 := R0.out.cell0
      have hR01 := R0.out.cell1
      have hR02 := R0.out.cell2
      have hR03 := R0.out.cell3
      have fR00 := R0.out.free 0
      have fR01 := R0.out.free 1
      have fR02 := R0.out.free 2
      have fR03 := R0.out.free 3
      have hx := LT1.out
      go_wp2
      refine ret_rat rfl w.heap.size _ _ _ _ rfl (R0.out.put _ _ _ _) rfl ?_
      exact ⟨_, rfl, IA.out.keep (R0.out.keeps (by simp) (by simp) (by simp) (by simp) _ _ _ _), below_put4 HB.out (by omega) _ _ _ _⟩

end Go.Proofs.Ytgkibmigbjjnnaa

namespace Go.Proofs.Ytgkibmigbjjnnaa
open Go.RowKit

/-- a list of one's own that holds these numbers -/
def ListI (w : World) (base : Nat) (v : Value) (zs : List Int) : Prop :=
  ∃ xs, Own2 w base 25 v zs.length xs ∧ ∀ i, i < zs.length → ∃ s m n c, xs[i * 2]? = some (.bool s) ∧ xs[i * 2 + 1]? = some (.slice m n c) ∧ IntAt w (.agg #[.bool s, .slice m n c]) (zs.getD i 0)
theorem ListI.nil (w : World) (base : Nat) : ListI w base (.slice none 0 0) [] := ⟨[], Own2.nil _ _ _, fun _ hi => absurd hi (Nat.not_lt_zero _)⟩
theorem ListI.below {w w' : World} {base : Nat} {v : Value} {zs : List Int} (h : ListI w base v zs) (hb : Below w.heap.size w w') : ListI w' base v zs := by
  obtain ⟨xs, h1, h2⟩ := h
  refine ⟨xs, h1.below hb, fun i hi => ?_⟩
  obtain ⟨s, m, n, c, k1, k2, k3⟩ := h2 i hi
  exact ⟨s, m, n, c, k1, k2, k3.below hb⟩
theorem ListI.drew {w : World} {base : Nat} {v : Value} {zs : List Int} (h : ListI w base v zs) : ListI w.drew base v zs := h
theorem ListI.app {w w' : World} {base : Nat} {v v' : Value} {zs : List Int} {xs : List Value} {s : Bool} {m : Option Addr} {n c : Nat} {z : Int} (h1 : Own2 w base 25 v zs.length xs)
    (h2 : ∀ i, i < zs.length → ∃ s m n c, xs[i * 2]? = some (.bool s) ∧ xs[i * 2 + 1]? = some (.slice m n c) ∧ IntAt w (.agg #[.bool s, .slice m n c]) (zs.getD i 0)) (hz : IntAt w (.agg #[.bool s, .slice m n c]) z)
    (ho : Own2 w' base 25 v' (zs.length + 1) (xs ++ [.bool s, .slice m n c])) (hg : w.grownBy w' v.ownBlock) : ListI w' base v' (zs ++ [z]) := by
  have hk := h1.spares hg
  have hl : xs.length = zs.length * 2 := h1.1.1
  refine ⟨xs ++ [.bool s, .slice m n c], by rw [List.length_append]; exact ho, fun i hi => ?_⟩
  rw [List.length_append, List.length_singleton] at hi
  rcases Nat.lt_or_ge i zs.length with h | h
  · obtain ⟨s', m', n', c', k1, k2, k3⟩ := h2 i h
    refine ⟨s', m', n', c', ?_, ?_, ?_⟩
    · rw [List.getElem?_append_left (by omega)]; exact k1
    · rw [List.getElem?_append_left (by omega)]; exact k2
    · rw [List.getD_eq_getElem?_getD, List.getElem?_append_left h, ← List.getD_eq_getElem?_getD]; exact k3.keep hk
  · have e : i = zs.length := by omega
    subst e
    refine ⟨s, m, n, c, ?_, ?_, ?_⟩
    · rw [List.getElem?_append_right (by omega), hl, Nat.sub_self]; rfl
    · rw [List.getElem?_append_right (by omega), hl, show zs.length * 2 + 1 - zs.length * 2 = 1 by omega]; rfl
    · rw [List.getD_eq_getElem?_getD, List.getElem?_append_right (Nat.le_refl _), Nat.sub_self]; exact hz.keep hk
theorem ListI.other {w w' : World} {base : Nat} {v : Value} {zs : List Int} {r : Option Nat} (h : ListI w base v zs) (hg : w.grownBy w' r) (hs : Spares w w') (hr : ∀ g, v.ownBlock = some g → r ≠ some g) : ListI w' base v zs := by
  obtain ⟨xs, ⟨⟨hl, h1⟩, h2⟩, h3⟩ := h
  refine ⟨xs, ⟨⟨hl, ?_⟩, fun g cur t fr hgb hh => h2 g cur t fr hgb ?_⟩, fun i hi => ?_⟩
  · rcases h1 with h0 | ⟨g, cap, cur, rfl, hbg, hh, q⟩
    · exact .inl h0
    · exact .inr ⟨g, cap, cur, rfl, hbg, by rw [hg.block g (Array.getElem?_eq_some_iff.1 hh).1 (Ne.symm (hr g rfl))]; exact hh, q⟩
  · rcases h1 with ⟨rfl, _⟩ | ⟨g', cap, cur', rfl, _, hh', q⟩
    · cases hgb
    · have e : g' = g := by simpa [Value.ownBlock] using hgb
      subst e
      rw [← hg.block g' (Array.getElem?_eq_some_iff.1 hh').1 (Ne.symm (hr g' rfl))]; exact hh
  · obtain ⟨s, m, n, c, k1, k2, k3⟩ := h3 i hi
    exact ⟨s, m, n, c, k1, k2, k3.keep hs⟩
theorem ListI.lt {w : World} {base : Nat} {v : Value} {zs : List Int} (h : ListI w base v zs) {g : Nat} (hg : v.ownBlock = some g) : base ≤ g ∧ g < w.heap.size := by
  obtain ⟨xs, h1, _⟩ := h
  exact h1.1.lt g hg
/-- a list of one's own that holds these numbers -/
def ListR (w : World) (base : Nat) (v : Value) (zs : List Int) : Prop :=
  ∃ xs, Own2 w base 57 v zs.length xs ∧ ∀ i, i < zs.length → ∃ s m n c, xs[i * 2]? = some (.bool s) ∧ xs[i * 2 + 1]? = some (.slice m n c) ∧ RInt w (.agg #[.bool s, .slice m n c]) (zs.getD i 0)
theorem ListR.nil (w : World) (base : Nat) : ListR w base (.slice none 0 0) [] := ⟨[], Own2.nil _ _ _, fun _ hi => absurd hi (Nat.not_lt_zero _)⟩
theorem ListR.below {w w' : World} {base : Nat} {v : Value} {zs : List Int} (h : ListR w base v zs) (hb : Below w.heap.size w w') : ListR w' base v zs := by
  obtain ⟨xs, h1, h2⟩ := h
  refine ⟨xs, h1.below hb, fun i hi => ?_⟩
  obtain ⟨s, m, n, c, k1, k2, k3⟩ := h2 i hi
  exact ⟨s, m, n, c, k1, k2, k3.below hb⟩
theorem ListR.drew {w : World} {base : Nat} {v : Value} {zs : List Int} (h : ListR w base v zs) : ListR w.drew base v zs := h
theorem ListR.app {w w' : World} {base : Nat} {v v' : Value} {zs : List Int} {xs : List Value} {s : Bool} {m : Option Addr} {n c : Nat} {z : Int} (h1 : Own2 w base 57 v zs.length xs)
    (h2 : ∀ i, i < zs.length → ∃ s m n c, xs[i * 2]? = some (.bool s) ∧ xs[i * 2 + 1]? = some (.slice m n c) ∧ RInt w (.agg #[.bool s, .slice m n c]) (zs.getD i 0)) (hz : RInt w (.agg #[.bool s, .slice m n c]) z)
    (ho : Own2 w' base 57 v' (zs.length + 1) (xs ++ [.bool s, .slice m n c])) (hg : w.grownBy w' v.ownBlock) : ListR w' base v' (zs ++ [z]) := by
  have hk := h1.spares hg
  have hl : xs.length = zs.length * 2 := h1.1.1
  refine ⟨xs ++ [.bool s, .slice m n c], by rw [List.length_append]; exact ho, fun i hi => ?_⟩
  rw [List.length_append, List.length_singleton] at hi
  rcases Nat.lt_or_ge i zs.length with h | h
  · obtain ⟨s', m', n', c', k1, k2, k3⟩ := h2 i h
    refine ⟨s', m', n', c', ?_, ?_, ?_⟩
    · rw [List.getElem?_append_left (by omega)]; exact k1
    · rw [List.getElem?_append_left (by omega)]; exact k2
    · rw [List.getD_eq_getElem?_getD, List.getElem?_append_left h, ← List.getD_eq_getElem?_getD]; exact k3.keep hk
  · have e : i = zs.length := by omega
    subst e
    refine ⟨s, m, n, c, ?_, ?_, ?_⟩
    · rw [List.getElem?_append_right (by omega), hl, Nat.sub_self]; rfl
    · rw [List.getElem?_append_right (by omega), hl, show zs.length * 2 + 1 - zs.length * 2 = 1 by omega]; rfl
    · rw [List.getD_eq_getElem?_getD, List.getElem?_append_right (Nat.le_refl _), Nat.sub_self]; exact hz.keep hk
theorem ListR.other {w w' : World} {base : Nat} {v : Value} {zs : List Int} {r : Option Nat} (h : ListR w base v zs) (hg : w.grownBy w' r) (hs : Spares w w') (hr : ∀ g, v.ownBlock = some g → r ≠ some g) : ListR w' base v zs := by
  obtain ⟨xs, ⟨⟨hl, h1⟩, h2⟩, h3⟩ := h
  refine ⟨xs, ⟨⟨hl, ?_⟩, fun g cur t fr hgb hh => h2 g cur t fr hgb ?_⟩, fun i hi => ?_⟩
  · rcases h1 with h0 | ⟨g, cap, cur, rfl, hbg, hh, q⟩
    · exact .inl h0
    · exact .inr ⟨g, cap, cur, rfl, hbg, by rw [hg.block g (Array.getElem?_eq_some_iff.1 hh).1 (Ne.symm (hr g rfl))]; exact hh, q⟩
  · rcases h1 with ⟨rfl, _⟩ | ⟨g', cap, cur', rfl, _, hh', q⟩
    · cases hgb
    · have e : g' = g := by simpa [Value.ownBlock] using hgb
      subst e
      rw [← hg.block g' (Array.getElem?_eq_some_iff.1 hh').1 (Ne.symm (hr g' rfl))]; exact hh
  · obtain ⟨s, m, n, c, k1, k2, k3⟩ := h3 i hi
    exact ⟨s, m, n, c, k1, k2, k3.keep hs⟩
theorem ListR.lt {w : World} {base : Nat} {v : Value} {zs : List Int} (h : ListR w base v zs) {g : Nat} (hg : v.ownBlock = some g) : base ≤ g ∧ g < w.heap.size := by
  obtain ⟨xs, h1, _⟩ := h
  exact h1.1.lt g hg
theorem ListI.ints {w : World} {base : Nat} {v : Value} {zs : List Int} (h : ListI w base v zs) : Ints w v zs := by
  obtain ⟨xs, ⟨⟨hl, h1⟩, _⟩, h3⟩ := h
  rcases h1 with ⟨rfl, h0⟩ | ⟨g, cap, cur, rfl, hbg, hh, hn, hm, hc, ht⟩
  · have : zs = [] := List.eq_nil_of_length_eq_zero h0
    subst this
    exact Ints.nil w
  · refine ⟨_, cap, rfl, hn, hm, fun _ => ⟨g, 0, rfl, fun i hi => ?_⟩⟩
    obtain ⟨s, m, n, c, k1, k2, k3⟩ := h3 i hi
    have at' : ∀ j x, xs[j]? = some x → w.cell? ⟨g, j, none⟩ = some x := by
      intro j x hj
      have hjl : j < xs.length := (List.getElem?_eq_some_iff.1 hj).1
      rw [← ht, List.getElem?_take, if_pos (by omega)] at hj
      unfold World.cell?
      simp only [hh]
      rwa [← Array.getElem?_toList]
    exact ⟨s, m, c, n, by rw [Nat.zero_add]; exact at' _ _ k1, by rw [Nat.zero_add]; exact at' _ _ k2, k3⟩
/-- a list of the document's numbers in memory -/
def RInts (w : World) (v : Value) (zs : List Int) : Prop :=
  ∃ a cap, v = .slice a zs.length cap ∧ zs.length ≤ cap ∧ cap ≤ maxLen ∧ (zs ≠ [] → ∃ b off, a = some ⟨b, off, none⟩ ∧
    ∀ i, i < zs.length → ∃ s m c n, w.cell? ⟨b, off + i * 2, none⟩ = some (.bool s) ∧ w.cell? ⟨b, off + i * 2 + 1, none⟩ = some (.slice m n c) ∧ RInt w (.agg #[.bool s, .slice m n c]) (zs.getD i 0))
theorem RInts.below {w w' : World} {v : Value} {zs : List Int} (h : RInts w v zs) (hb : Below w.heap.size w w') : RInts w' v zs := by
  obtain ⟨a, cap, rfl, h1, h2, h3⟩ := h
  refine ⟨a, cap, rfl, h1, h2, fun hx => ?_⟩
  obtain ⟨b, off, rfl, hc⟩ := h3 hx
  refine ⟨b, off, rfl, fun i hi => ?_⟩
  obtain ⟨s, m, c, n, k1, k2, k3⟩ := hc i hi
  exact ⟨s, m, c, n, (hb.cell (World.block_lt_of_cell? w _ k1)).trans k1, (hb.cell (World.block_lt_of_cell? w _ k2)).trans k2, k3.below hb⟩
theorem RInts.at {w : World} {a : Option Addr} {n cap : Nat} {zs : List Int} (h : RInts w (.slice a n cap) zs) {i : Nat} (hi : i < zs.length) :
    ∃ b off, a = some ⟨b, off, none⟩ ∧ ∃ s m l c, CellAt w ⟨b, off + i * 2, none⟩ (.bool s) ∧ CellAt w ⟨b, off + i * 2 + 1, none⟩ (.slice m l c) ∧ RInt w (.agg #[.bool s, .slice m l c]) (zs.getD i 0) := by
  obtain ⟨a', c', he, _, _, h3⟩ := h
  simp only [Value.slice.injEq] at he
  obtain ⟨rfl, _, rfl⟩ := he
  obtain ⟨b, off, rfl, h⟩ := h3 (by intro e; rw [e] at hi; simp at hi)
  obtain ⟨s, m, c, l, k1, k2, k3⟩ := h i hi
  exact ⟨b, off, rfl, s, m, l, c, ⟨k1⟩, ⟨k2⟩, k3⟩
theorem ListR.rints {w : World} {base : Nat} {v : Value} {zs : List Int} (h : ListR w base v zs) : RInts w v zs := by
  obtain ⟨xs, ⟨⟨hl, h1⟩, _⟩, h3⟩ := h
  rcases h1 with ⟨rfl, h0⟩ | ⟨g, cap, cur, rfl, hbg, hh, hn, hm, hc, ht⟩
  · have : zs = [] := List.eq_nil_of_length_eq_zero h0
    subst this
    exact ⟨none, 0, rfl, Nat.le_refl _, Nat.zero_le _, fun h => absurd rfl h⟩
  · refine ⟨_, cap, rfl, hn, hm, fun _ => ⟨g, 0, rfl, fun i hi => ?_⟩⟩
    obtain ⟨s, m, n, c, k1, k2, k3⟩ := h3 i hi
    have at' : ∀ j x, xs[j]? = some x → w.cell? ⟨g, j, none⟩ = some x := by
      intro j x hj
      have hjl : j < xs.length := (List.getElem?_eq_some_iff.1 hj).1
      rw [← ht, List.getElem?_take, if_pos (by omega)] at hj
      unfold World.cell?
      simp only [hh]
      rwa [← Array.getElem?_toList]
    exact ⟨s, m, c, n, by rw [Nat.zero_add]; exact at' _ _ k1, by rw [Nat.zero_add]; exact at' _ _ k2, k3⟩
end Go.Proofs.Ytgkibmigbjjnnaa

namespace Go.Proofs.Ytgkibmigbjjnnaa
open Go.RowKit

theorem high1 {w : World} {C g : Nat} (hne : C ≠ g) (o : Nat) (c : Value) : (w.setCell ⟨C, o, none⟩ c).heap[g]? = w.heap[g]? := by
  show (w.heap.modify C _)[g]? = _
  rw [Array.getElem?_modify, if_neg hne]
theorem high2 {w : World} {C base : Nat} (hC : C < base) (x y : Value) : ∀ g, base ≤ g → ((w.setCell ⟨C, 0, none⟩ x).setCell ⟨C, 1, none⟩ y).heap[g]? = w.heap[g]? := by
  intro g hg
  exact (high1 (by omega) 1 y).trans (high1 (by omega) 0 x)
theorem Own2.high {w w' : World} {base : Nat} {e : TypeId} {v : Value} {n : Nat} {xs : List Value} (h : Own2 w base e v n xs) (hw : ∀ g, base ≤ g → w'.heap[g]? = w.heap[g]?) : Own2 w' base e v n xs := by
  obtain ⟨⟨hl, h1⟩, h2⟩ := h
  refine ⟨⟨hl, ?_⟩, fun g cur t fr hg hh => h2 g cur t fr hg ?_⟩
  · rcases h1 with h0 | ⟨g, cap, cur, rfl, hg, hh, r⟩
    · exact .inl h0
    · exact .inr ⟨g, cap, cur, rfl, hg, by rw [hw g hg]; exact hh, r⟩
  · rcases h1 with ⟨rfl, _⟩ | ⟨g', cap, cur', rfl, hbg, hh', r⟩
    · cases hg
    · have e : g' = g := by simpa [Value.ownBlock] using hg
      subst e
      rw [← hw g' hbg]; exact hh
theorem ListI.high {w w' : World} {base : Nat} {v : Value} {zs : List Int} (h : ListI w base v zs) (hw : ∀ g, base ≤ g → w'.heap[g]? = w.heap[g]?) (k : Spares w w') : ListI w' base v zs := by
  obtain ⟨xs, h1, h2⟩ := h
  refine ⟨xs, h1.high hw, fun i hi => ?_⟩
  obtain ⟨s, m, n, c, k1, k2, k3⟩ := h2 i hi
  exact ⟨s, m, n, c, k1, k2, k3.keep k⟩
theorem ListR.high {w w' : World} {base : Nat} {v : Value} {zs : List Int} (h : ListR w base v zs) (hw : ∀ g, base ≤ g → w'.heap[g]? = w.heap[g]?) (k : Spares w w') : ListR w' base v zs := by
  obtain ⟨xs, h1, h2⟩ := h
  refine ⟨xs, h1.high hw, fun i hi => ?_⟩
  obtain ⟨s, m, n, c, k1, k2, k3⟩ := h2 i hi
  exact ⟨s, m, n, c, k1, k2, k3.keep k⟩
theorem below_growQ {B : Nat} {w w' w'' : World} {r : Option Nat} (h : Below B w w') (hg : w'.grownBy w'' r) (hB : B ≤ w'.heap.size) (hr : ∀ g, r = some g → B ≤ g) : Below B w w'' := h.grown hg hB hr
theorem ListI.slice {w : World} {base : Nat} {v : Value} {zs : List Int} (h : ListI w base v zs) : ∃ a c, v = .slice a zs.length c := by
  obtain ⟨a, c, e, _⟩ := h.ints
  exact ⟨a, c, e⟩
theorem ListR.slice {w : World} {base : Nat} {v : Value} {zs : List Int} (h : ListR w base v zs) : ∃ a c, v = .slice a zs.length c := by
  obtain ⟨a, c, e, _⟩ := h.rints
  exact ⟨a, c, e⟩
theorem Try.infoIC : (Try.prog.info? 25).map (·.size) = some 2 := by kernel_rfl
theorem ret_lint {fn : Func} {R : Ending → World → Prop} {a : Act} {w : World} {k p : Tmp} (h : fn.results = #[.tmp k, .cell p 25]) (v : Value) (g : Nat) (x y : Value)
    (hk : a.tmps.getD k undef = v) (hp : a.tmps.getD p undef = .pointer (some ⟨g, 0, none⟩)) (hg : Box w g x y) (hd : a.defers = []) (hR : R (.returned (.tuple #[v, .agg #[x, y]])) w) : bodyPost Try.prog fn R .ret a w := by
  refine bodyPost_ret ?_ hd hR
  have hp' : a.tmps[p]?.getD undef = .pointer (some ⟨g, 0, none⟩) := by simpa using hp
  have hk' : a.tmps[k]?.getD undef = v := by simpa using hk
  simp [results, h, hp', hk', asAddr, run_loadVar_row w g 25 25 #[x, y] (0, 0) _ hg Try.underlying25 rfl Try.infoIC]

set_option maxRecDepth 100000 in
set_option maxHeartbeats 16000000 in
theorem rtcom_any (v : Value) (qs : List Rat) (w : World) (h : RatL w v qs) (hs : AllSz qs) :
    Calls Try.prog 22 #[v] w fun e w' => ∃ v' u, e = .returned (.tuple #[v', u]) ∧ Ints w' v' (comQ qs) ∧ IntAt w' u (lcmQ qs) ∧ Below w.heap.size w w' := by
  have HL := hide h
  have HS := hide hs
  obtain ⟨a, cap, rfl, hcap, hm, _⟩ := h
  unfold maxLen at hm
  clear hs
  obtain ⟨i0, hi0, hz0, hz1, hz2⟩ := info_parts Try.infoIntB
  have TI := hide (And.intro hi0 (And.intro hz0 (And.intro hz1 hz2)))
  clear hi0 hz0 hz1 hz2
  obtain ⟨N, hN⟩ : ∃ N, qs.length = N := ⟨_, rfl⟩
  have HN := hide hN
  rw [hN] at hcap HL ⊢
  clear hN
  have R0 := Box.new w (.bool false) (.slice none 0 0)
  replace R0 := hide R0
  have HB := below_alloc w (.cells #[.bool false, .slice none 0 0] 25)
  replace HB := hide HB
  go_enter Try.func22, Try.ntmps22
  go_wp2_with fail
  generalize (w.alloc (.cells #[.bool false, .slice none 0 0] 25)) = w0 at *
  refine (iof_any 1 _ (by decide) (by decide)).mono ?_
  rintro e u1 ⟨v, rfl, kx, hb⟩
  obtain ⟨s1, m1, n1, c1, rfl, ky⟩ := kx.cells
  replace R0 := hide (R0.out.step (hb))
  replace HB := hide (HB.out.trans ((hb).mono HB.out.size))
  have I1 := hide (ky)
  clear hb kx ky
  have LT1 := hide R0.out.lt
  go_wp2
  have al := below_alloc u1 (.cells #[.bool s1, .slice m1 n1 c1] 25)
  replace R0 := hide (R0.out.step (al))
  replace HB := hide (HB.out.trans ((al).mono HB.out.size))
  replace I1 := hide (I1.out.below (al))
  have P1 := hide (Box.new u1 (.bool s1) (.slice m1 n1 c1))
  clear al
  generalize u1.alloc (.cells #[.bool s1, .slice m1 n1 c1] 25) = u1a at *
  generalize u1.heap.size = g1 at *
  have I1' : Hid (IntAt u1a (.agg #[.bool s1, .slice m1 n1 c1]) (lcmQ (qs.take 0))) := hide I1.out
  clear I1
  have I1 := hide I1'.out
  clear I1'
  go_loopw [6, 13] (fun _ iv wr => ∃ (k : Nat) (s1 : Bool) (m1 : Option Addr) (n1 c1 : Nat), k ≤ N ∧ iv = .int .i64 k ∧ Below w.heap.size w wr ∧ Hid (Box wr w.heap.size (.bool false) (.slice none 0 0)) ∧ Hid (Box wr g1 (.bool s1) (.slice m1 n1 c1)) ∧ Hid (IntAt wr (.agg #[.bool s1, .slice m1 n1 c1]) (lcmQ (qs.take k)))) (fun _ iv _ => N - (intOf iv).toNat)
  case atStart => exact ⟨0, s1, m1, n1, c1, Nat.zero_le _, rfl, HB.out, R0, P1, I1⟩
  case round =>
    clear HB R0 P1 I1
    obtain ⟨k, s1, m1, n1, c1, hk, rfl, hb, R0, P1, I1⟩ := hrel
    have HB := hide hb
    have LQ := hide (HL.out.below hb)
    clear hb
    by_cases hlt : k < N
    · have HLT : Hid (k < qs.length) := hide (by rw [HN.out]; exact hlt)
      obtain ⟨b, off, rfl, s2, m2, n2, c2, t2, o2, p2, d2, hc, hi⟩ := LQ.out.at HLT.out
      have C2 := hide hc
      have SD := hide (lcmQ_sz5 qs HS.out k (Nat.le_of_lt HLT.out))
      have SQ := hide (HS.out.2 k HLT.out)
      have ST := hide (lcmQ_take qs k HLT.out)
      obtain ⟨q, hq⟩ : ∃ q, qs.getD k 0 = q := ⟨_, rfl⟩
      rw [hq] at hi SQ ST
      obtain ⟨D, hD⟩ : ∃ D, lcmQ (qs.take k) = D := ⟨_, rfl⟩
      rw [hD] at I1 SD ST
      have I2 := hide hi
      clear hq hD hc hi LQ
      have hltI : (k : Int) < (N : Int) := by omega
      have q0 := C2.out.cell0
      have q1 := C2.out.cell1
      have q2 := C2.out.cell2
      have q3 := C2.out.cell3
      go_upto_region 5 with fail
      clear q0 q1 q2 q3 C2
      have LT2 := hide P1.out.lt
      have al := below_alloc wr (.cells #[.bool s2, .slice m2 n2 c2, .bool t2, .slice o2 p2 d2] 27)
      replace HB := hide (HB.out.trans ((al).mono HB.out.size))
      replace R0 := hide (R0.out.step (al))
      replace P1 := hide (P1.out.step (al))
      replace I1 := hide (I1.out.below (al))
      replace I2 := hide (I2.out.below (al))
      have V2 := hide (Box4.new wr (.bool s2) (.slice m2 n2 c2) (.bool t2) (.slice o2 p2 d2))
      clear al
      generalize wr.alloc (.cells #[.bool s2, .slice m2 n2 c2, .bool t2, .slice o2 p2 d2] 27) = wra at *
      generalize wr.heap.size = g2 at *
      go_wp2_with fail
      refine wp_calm (fun w' => Below w.heap.size w w' ∧ Box w' w.heap.size (.bool false) (.slice none 0 0) ∧ Box w' g1 (.bool s1) (.slice m1 n1 c1) ∧ IntAt w' (.agg #[.bool s1, .slice m1 n1 c1]) D ∧ Box4 w' g2 (.bool s2) (.slice m2 n2 c2) (.bool t2) (.slice o2 p2 d2) ∧ RatAt w' (.agg #[.bool s2, .slice m2 n2 c2, .bool t2, .slice o2 p2 d2]) q) (fun j => j != 9) 10 #[false, false, false, false, false, false, false, false, false, false] (by kernel_rfl) rfl rfl ?_
      have HF := hide (And.intro (HB.out.drew) (And.intro (R0.out.drew) (And.intro (P1.out.drew) (And.intro (I1.out.drew) (And.intro (V2.out.drew) (I2.out.drew))))))
      generalize wra.drew = wrad at *
      refine Calm.takeL 10 (i := 0) (v := ?_) (a' := ?_) (l' := #[true, false, false, false, false, false, false, false, false, false]) (d := some 17) (by kernel_rfl) rfl (by kernel_rfl) (by kernel_rfl) (by kernel_rfl) (by kernel_rfl) (fun _ _ _ h => h) HF.out rfl ?_ rfl rfl ?_ ?_
      rotate_left
      · intro w' hF; have f10 := hF.2.1.cell0; have f11 := hF.2.1.cell1; have f20 := hF.2.2.1.cell0; have f21 := hF.2.2.1.cell1; have f40 := hF.2.2.2.2.1.cell0; have f41 := hF.2.2.2.2.1.cell1; have f42 := hF.2.2.2.2.1.cell2; have f43 := hF.2.2.2.2.1.cell3; clear hF; go_simp; try rfl
      rotate_left
      · simp only [Act.put]; exact rfl
      refine Calm.takeL 10 (i := 1) (v := ?_) (a' := ?_) (l' := #[true, true, false, false, false, false, false, false, false, false]) (d := some 18) (by kernel_rfl) rfl (by kernel_rfl) (by kernel_rfl) (by kernel_rfl) (by kernel_rfl) (fun _ _ _ h => h) HF.out rfl ?_ rfl rfl ?_ ?_
      rotate_left
      · intro w' hF; have f10 := hF.2.1.cell0; have f11 := hF.2.1.cell1; have f20 := hF.2.2.1.cell0; have f21 := hF.2.2.1.cell1; have f40 := hF.2.2.2.2.1.cell0; have f41 := hF.2.2.2.2.1.cell1; have f42 := hF.2.2.2.2.1.cell2; have f43 := hF.2.2.2.2.1.cell3; clear hF; go_simp; try rfl
      rotate_left
      · simp only [Act.put]; exact rfl
      refine Calm.takeL 10 (i := 3) (v := ?_) (a' := ?_) (l' := #[true, true, false, true, false, false, false, false, false, false]) (d := some 20) (by kernel_rfl) rfl (by kernel_rfl) (by kernel_rfl) (by kernel_rfl) (by kernel_rfl) (fun _ _ _ h => h) HF.out rfl ?_ rfl rfl ?_ ?_
      rotate_left
      · intro w' hF; have f10 := hF.2.1.cell0; have f11 := hF.2.1.cell1; have f20 := hF.2.2.1.cell0; have f21 := hF.2.2.1.cell1; have f40 := hF.2.2.2.2.1.cell0; have f41 := hF.2.2.2.2.1.cell1; have f42 := hF.2.2.2.2.1.cell2; have f43 := hF.2.2.2.2.1.cell3; clear hF; go_simp; try rfl
      rotate_left
      · simp only [Act.put]; exact rfl
      refine Calm.takeL 10 (i := 4) (v := ?_) (a' := ?_) (l' := #[true, true, false, true, true, false, false, false, false, false]) (d := some 21) (by kernel_rfl) rfl (by kernel_rfl) (by kernel_rfl) (by kernel_rfl) (by kernel_rfl) (fun _ _ _ h => h) HF.out rfl ?_ rfl rfl ?_ ?_
      rotate_left
      · intro w' hF; have f10 := hF.2.1.cell0; have f11 := hF.2.1.cell1; have f20 := hF.2.2.1.cell0; have f21 := hF.2.2.1.cell1; have f40 := hF.2.2.2.2.1.cell0; have f41 := hF.2.2.2.2.1.cell1; have f42 := hF.2.2.2.2.1.cell2; have f43 := hF.2.2.2.2.1.cell3; clear hF; go_simp; try rfl
      rotate_left
      · simp only [Act.put]; exact rfl
      refine Calm.one (i := 2) (l' := #[true, true, true, true, true, false, false, false, false, false]) (by kernel_rfl) rfl rfl rfl fun K hK => ?_
      go_simp
      refine (den_any _ q _ HF.out.2.2.2.2.2).mono ?_
      rintro e x1 ⟨v, rfl, n, hb⟩
      have HF' := hide (And.intro (HF.out.1.trans ((hb).mono HF.out.1.size)) (And.intro (HF.out.2.1.step (hb)) (And.intro (HF.out.2.2.1.step (hb)) (And.intro (HF.out.2.2.2.1.below (hb)) (And.intro (HF.out.2.2.2.2.1.step (hb)) (HF.out.2.2.2.2.2.below (hb)))))))
      have T1 := hide (n)
      refine hK _ _ (fun _ => HF'.out) ?_
      clear hK K HF hb n
      have HF := hide HF'.out
      clear HF'
      refine Calm.one (i := 5) (l' := #[true, true, true, true, true, true, false, false, false, false]) (by kernel_rfl) rfl rfl rfl fun K hK => ?_
      go_simp
      refine (den_any _ q _ HF.out.2.2.2.2.2).mono ?_
      rintro e x2 ⟨v, rfl, n, hb⟩
      replace T1 := hide (T1.out.below (hb))
      have HF' := hide (And.intro (HF.out.1.trans ((hb).mono HF.out.1.size)) (And.intro (HF.out.2.1.step (hb)) (And.intro (HF.out.2.2.1.step (hb)) (And.intro (HF.out.2.2.2.1.below (hb)) (And.intro (HF.out.2.2.2.2.1.step (hb)) (HF.out.2.2.2.2.2.below (hb)))))))
      have T2 := hide (n)
      refine hK _ _ (fun _ => HF'.out) ?_
      clear hK K HF hb n
      have HF := hide HF'.out
      clear HF'
      refine Calm.one (i := 6) (l' := #[true, true, true, true, true, true, true, false, false, false]) (by kernel_rfl) rfl rfl rfl fun K hK => ?_
      go_simp
      refine (igcd_any _ _ D (q.den : Int) _ HF.out.2.2.2.1 T2.out (SzI.len (SD.out) (show 4000 ≤ 1000000000 by decide)) (SzI.len (SQ.out.den) (show 300 ≤ 1000000000 by decide))).mono ?_
      rintro e x3 ⟨v, rfl, n, hb⟩
      replace T1 := hide (T1.out.below (hb))
      clear T2
      have HF' := hide (And.intro (HF.out.1.trans ((hb).mono HF.out.1.size)) (And.intro (HF.out.2.1.step (hb)) (And.intro (HF.out.2.2.1.step (hb)) (And.intro (HF.out.2.2.2.1.below (hb)) (And.intro (HF.out.2.2.2.2.1.step (hb)) (HF.out.2.2.2.2.2.below (hb)))))))
      have T3 := hide (n)
      refine hK _ _ (fun _ => HF'.out) ?_
      clear hK K HF hb n
      have HF := hide HF'.out
      clear HF'
      refine Calm.one (i := 7) (l' := #[true, true, true, true, true, true, true, true, false, false]) (by kernel_rfl) rfl rfl rfl fun K hK => ?_
      go_simp
      refine (quotient_any _ _ (q.den : Int) (Int.gcd D q.den : Int) _ T1.out T3.out (SzI.len (SQ.out.den) (show 300 ≤ 1000000000 by decide)) (SzI.len (gcdQ_sz SQ.out.den D) (show 300 ≤ 1000000000 by decide)) (gcdQ_ne D q)).mono ?_
      rintro e x4 ⟨v, rfl, n, hb⟩
      clear T1
      clear T3
      have HF' := hide (And.intro (HF.out.1.trans ((hb).mono HF.out.1.size)) (And.intro (HF.out.2.1.step (hb)) (And.intro (HF.out.2.2.1.step (hb)) (And.intro (HF.out.2.2.2.1.below (hb)) (And.intro (HF.out.2.2.2.2.1.step (hb)) (HF.out.2.2.2.2.2.below (hb)))))))
      have T4 := hide (n)
      refine hK _ _ (fun _ => HF'.out) ?_
      clear hK K HF hb n
      have HF := hide HF'.out
      clear HF'
      refine Calm.one (i := 8) (l' := #[true, true, true, true, true, true, true, true, true, false]) (by kernel_rfl) rfl rfl rfl fun K hK => ?_
      go_simp
      refine (imul_any _ _ D ((q.den : Int) / (Int.gcd D q.den : Int)) _ HF.out.2.2.2.1 T4.out (SzI.len (SD.out) (show 4000 ≤ 1000000000 by decide)) (SzI.len (SQ.out.den.quoQ _) (show 300 ≤ 1000000000 by decide))).mono ?_
      rintro e x5 ⟨v, rfl, n, hb⟩
      obtain ⟨s3, m3, n3, c3, rfl, n⟩ := n.cells
      clear T4
      have HF' := hide (And.intro (HF.out.1.trans ((hb).mono HF.out.1.size)) (And.intro (HF.out.2.1.step (hb)) (And.intro (HF.out.2.2.1.step (hb)) (And.intro (HF.out.2.2.2.1.below (hb)) (And.intro (HF.out.2.2.2.2.1.step (hb)) (HF.out.2.2.2.2.2.below (hb)))))))
      have T5 := hide (n)
      refine hK _ _ (fun _ => HF'.out) ?_
      clear hK K HF hb n
      have HF := hide HF'.out
      clear HF'
      refine Calm.one (i := 9) (l' := #[true, true, true, true, true, true, true, true, true, true]) (by kernel_rfl) rfl rfl rfl fun K hK => ?_
      have hc0 := HF.out.2.2.1.cell0
      have hc1 := HF.out.2.2.1.cell1
      have hf0 := HF.out.2.2.1.free 0
      have hf1 := HF.out.2.2.1.free 1
      go_simp
      refine hK _ _ (fun h => absurd h (by decide)) ?_
      clear hK K
      refine Calm.done (by kernel_rfl) ?_
      clear hc0 hc1 hf0 hf1
      go_wp2
      go_roundw
      case rel => exact ⟨k + 1, s3, m3, n3, c3, by omega, by go_num, below_put HF.out.1 (by have hx := LT1.out; omega) _ _, hide (HF.out.2.1.other (by have hx := LT1.out; omega) _ _), hide (HF.out.2.2.1.put _ _), hide (by rw [ST.out]; exact T5.out.keep (HF.out.2.2.1.keeps (by simp) (by simp) _ _))⟩
      case measure => simp [intOf]; omega
    · have e : k = N := by omega
      subst e
      obtain ⟨wl, hwl⟩ : ∃ wl, wl = wr := ⟨_, rfl⟩
      subst hwl
      have IA : Hid (IntAt wl (.agg #[.bool s1, .slice m1 n1 c1]) (lcmQ qs)) := hide (by have hh := I1.out; rw [(show qs.take k = qs from List.take_of_length_le (by rw [HN.out]; exact Nat.le_refl _))] at hh; exact hh)
      clear I1
      have SD : Hid (SzI 4000 (lcmQ qs)) := hide (by have hh := lcmQ_sz5 qs HS.out qs.length (Nat.le_refl _); rw [List.take_length] at hh; exact hh)
      have LT2 := hide P1.out.lt
      have LT3 := hide HB.out.size
      go_wp2
      go_loopw [7, 9, 29] (fun lv _ iv wr => ∃ j : Nat, j ≤ k ∧ iv = .int .i64 j ∧ Below wl.heap.size wl wr ∧ Hid (ListI wr wl.heap.size lv ((comQ qs).take j))) (fun _ _ iv _ => k - (intOf iv).toNat)
      case atStart => exact ⟨0, Nat.zero_le _, rfl, Below.refl _ _, hide (ListI.nil _ _)⟩
      case round =>
        obtain ⟨j, hj, rfl, hb, LA⟩ := hrel
        have HB2 := hide hb
        have P2 := hide (P1.out.step hb)
        have I2 := hide (IA.out.below hb)
        have LQ2 := hide (LQ.out.below hb)
        clear hb
        by_cases hlt : j < k
        · have HLT : Hid (j < qs.length) := hide (by rw [HN.out]; exact hlt)
          obtain ⟨b, off, rfl, s4, m4, n4, c4, t4, o4, p4, d4, hc, hi⟩ := LQ2.out.at HLT.out
          have C4 := hide hc
          have SQ := hide (HS.out.2 j HLT.out)
          have ST := hide (comQ_take qs j HLT.out)
          have TL : Hid (((comQ qs).take j).length ≤ 12) := hide (by have := HS.out.1; have := HLT.out; rw [List.length_take]; omega)
          obtain ⟨q, hq⟩ : ∃ q, qs.getD j 0 = q := ⟨_, rfl⟩
          rw [hq] at hi SQ ST
          obtain ⟨D, hD⟩ : ∃ D, lcmQ qs = D := ⟨_, rfl⟩
          rw [hD] at I2 ST
          have SD2 : Hid (SzI 4000 D) := hide (by rw [← hD]; exact SD.out)
          obtain ⟨T, hT⟩ : ∃ T, (comQ qs).take j = T := ⟨_, rfl⟩
          rw [hT] at LA TL ST
          have I4 := hide hi
          clear hq hD hT hc hi LQ2
          have hltI : (j : Int) < (k : Int) := by omega
          have q0 := C4.out.cell0
          have q1 := C4.out.cell1
          have q2 := C4.out.cell2
          have q3 := C4.out.cell3
          go_upto_region 11 with fail
          clear q0 q1 q2 q3 C4
          have al := below_alloc wr (.cells #[.bool s4, .slice m4 n4 c4, .bool t4, .slice o4 p4 d4] 27)
          replace HB2 := hide (HB2.out.trans ((al).mono HB2.out.size))
          replace P2 := hide (P2.out.step (al))
          replace I2 := hide (I2.out.below (al))
          replace I4 := hide (I4.out.below (al))
          replace LA := hide (LA.out.below (al))
          have V4 := hide (Box4.new wr (.bool s4) (.slice m4 n4 c4) (.bool t4) (.slice o4 p4 d4))
          clear al
          generalize wr.alloc (.cells #[.bool s4, .slice m4 n4 c4, .bool t4, .slice o4 p4 d4] 27) = wra at *
          generalize wr.heap.size = g4 at *
          go_wp2_with fail
          refine wp_calm (fun w' => Below wl.heap.size wl w' ∧ Box w' g1 (.bool s1) (.slice m1 n1 c1) ∧ IntAt w' (.agg #[.bool s1, .slice m1 n1 c1]) D ∧ Box4 w' g4 (.bool s4) (.slice m4 n4 c4) (.bool t4) (.slice o4 p4 d4) ∧ RatAt w' (.agg #[.bool s4, .slice m4 n4 c4, .bool t4, .slice o4 p4 d4]) q ∧ ListI w' wl.heap.size u7 T) (fun j => j != 9 && j != 10) 11 #[false, false, false, false, false, false, false, false, false, false, false] (by kernel_rfl) rfl rfl ?_
          have HF := hide (And.intro (HB2.out.drew) (And.intro (P2.out.drew) (And.intro (I2.out.drew) (And.intro (V4.out.drew) (And.intro (I4.out.drew) (LA.out.drew))))))
          generalize wra.drew = wrad at *
          refine Calm.takeL 11 (i := 0) (v := ?_) (a' := ?_) (l' := #[true, false, false, false, false, false, false, false, false, false, false]) (d := some 33) (by kernel_rfl) rfl (by kernel_rfl) (by kernel_rfl) (by kernel_rfl) (by kernel_rfl) (fun _ _ _ h => h) HF.out rfl ?_ rfl rfl ?_ ?_
          rotate_left
          · intro w' hF; clear hF; go_simp; try rfl
          rotate_left
          · simp only [Act.put]; exact rfl
          refine Calm.takeL 11 (i := 1) (v := ?_) (a' := ?_) (l' := #[true, true, false, false, false, false, false, false, false, false, false]) (d := some 34) (by kernel_rfl) rfl (by kernel_rfl) (by kernel_rfl) (by kernel_rfl) (by kernel_rfl) (fun _ _ _ h => h) HF.out rfl ?_ rfl rfl ?_ ?_
          rotate_left
          · intro w' hF; clear hF; go_simp; try rfl
          rotate_left
          · simp only [Act.put]; exact rfl
          refine Calm.takeL 11 (i := 2) (v := ?_) (a' := ?_) (l' := #[true, true, true, false, false, false, false, false, false, false, false]) (d := some 35) (by kernel_rfl) rfl (by kernel_rfl) (by kernel_rfl) (by kernel_rfl) (by kernel_rfl) (fun _ _ _ h => h) HF.out rfl ?_ rfl rfl ?_ ?_
          rotate_left
          · intro w' hF; have f10 := hF.2.1.cell0; have f11 := hF.2.1.cell1; have f30 := hF.2.2.2.1.cell0; have f31 := hF.2.2.2.1.cell1; have f32 := hF.2.2.2.1.cell2; have f33 := hF.2.2.2.1.cell3; clear hF; go_simp; try rfl
          rotate_left
          · simp only [Act.put]; exact rfl
          refine Calm.takeL 11 (i := 3) (v := ?_) (a' := ?_) (l' := #[true, true, true, true, false, false, false, false, false, false, false]) (d := some 36) (by kernel_rfl) rfl (by kernel_rfl) (by kernel_rfl) (by kernel_rfl) (by kernel_rfl) (fun _ _ _ h => h) HF.out rfl ?_ rfl rfl ?_ ?_
          rotate_left
          · intro w' hF; have f10 := hF.2.1.cell0; have f11 := hF.2.1.cell1; have f30 := hF.2.2.2.1.cell0; have f31 := hF.2.2.2.1.cell1; have f32 := hF.2.2.2.1.cell2; have f33 := hF.2.2.2.1.cell3; clear hF; go_simp; try rfl
          rotate_left
          · simp only [Act.put]; exact rfl
          refine Calm.takeL 11 (i := 4) (v := ?_) (a' := ?_) (l' := #[true, true, true, true, true, false, false, false, false, false, false]) (d := some 37) (by kernel_rfl) rfl (by kernel_rfl) (by kernel_rfl) (by kernel_rfl) (by kernel_rfl) (fun _ _ _ h => h) HF.out rfl ?_ rfl rfl ?_ ?_
          rotate_left
          · intro w' hF; have f10 := hF.2.1.cell0; have f11 := hF.2.1.cell1; have f30 := hF.2.2.2.1.cell0; have f31 := hF.2.2.2.1.cell1; have f32 := hF.2.2.2.1.cell2; have f33 := hF.2.2.2.1.cell3; clear hF; go_simp; try rfl
          rotate_left
          · simp only [Act.put]; exact rfl
          refine Calm.one (i := 5) (l' := #[true, true, true, true, true, true, false, false, false, false, false]) (by kernel_rfl) rfl rfl rfl fun K hK => ?_
          go_simp
          refine (den_any _ q _ HF.out.2.2.2.2.1).mono ?_
          rintro e x1 ⟨v, rfl, n, hb⟩
          have HF' := hide (And.intro (HF.out.1.trans ((hb).mono HF.out.1.size)) (And.intro (HF.out.2.1.step (hb)) (And.intro (HF.out.2.2.1.below (hb)) (And.intro (HF.out.2.2.2.1.step (hb)) (And.intro (HF.out.2.2.2.2.1.below (hb)) (HF.out.2.2.2.2.2.below (hb)))))))
          have T1 := hide (n)
          refine hK _ _ (fun _ => HF'.out) ?_
          clear hK K HF hb n
          have HF := hide HF'.out
          clear HF'
          refine Calm.one (i := 6) (l' := #[true, true, true, true, true, true, true, false, false, false, false]) (by kernel_rfl) rfl rfl rfl fun K hK => ?_
          go_simp
          refine (quotient_any _ _ D (q.den : Int) _ HF.out.2.2.1 T1.out (SzI.len (SD2.out) (show 4000 ≤ 1000000000 by decide)) (SzI.len (SQ.out.den) (show 300 ≤ 1000000000 by decide)) (by have := q.den_nz; omega)).mono ?_
          rintro e x2 ⟨v, rfl, n, hb⟩
          clear T1
          have HF' := hide (And.intro (HF.out.1.trans ((hb).mono HF.out.1.size)) (And.intro (HF.out.2.1.step (hb)) (And.intro (HF.out.2.2.1.below (hb)) (And.intro (HF.out.2.2.2.1.step (hb)) (And.intro (HF.out.2.2.2.2.1.below (hb)) (HF.out.2.2.2.2.2.below (hb)))))))
          have T2 := hide (n)
          refine hK _ _ (fun _ => HF'.out) ?_
          clear hK K HF hb n
          have HF := hide HF'.out
          clear HF'
          refine Calm.one (i := 7) (l' := #[true, true, true, true, true, true, true, true, false, false, false]) (by kernel_rfl) rfl rfl rfl fun K hK => ?_
          go_simp
          refine (imul_any _ _ q.num (D / (q.den : Int)) _ HF.out.2.2.2.2.1.num T2.out (SzI.len (SQ.out.num) (show 300 ≤ 1000000000 by decide)) (SzI.len (SD2.out.quoQ _) (show 4000 ≤ 1000000000 by decide))).mono ?_
          rintro e x3 ⟨v, rfl, n, hb⟩
          obtain ⟨s5, m5, n5, c5, rfl, n⟩ := n.cells
          clear T2
          have HF' := hide (And.intro (HF.out.1.trans ((hb).mono HF.out.1.size)) (And.intro (HF.out.2.1.step (hb)) (And.intro (HF.out.2.2.1.below (hb)) (And.intro (HF.out.2.2.2.1.step (hb)) (And.intro (HF.out.2.2.2.2.1.below (hb)) (HF.out.2.2.2.2.2.below (hb)))))))
          have TV := hide (n)
          refine hK _ _ (fun _ => HF'.out) ?_
          clear hK K HF hb n
          have HF := hide HF'.out
          clear HF'
          refine Calm.one (i := 8) (l' := #[true, true, true, true, true, true, true, true, true, false, false]) (by kernel_rfl) rfl rfl rfl fun K hK => ?_
          go_simp
          have al := below_alloc x3 (.cells #[.bool s5, .slice m5 n5 c5] 25)
          have HF' := hide (And.intro (HF.out.1.trans ((al).mono HF.out.1.size)) (And.intro (HF.out.2.1.step (al)) (And.intro (HF.out.2.2.1.below (al)) (And.intro (HF.out.2.2.2.1.step (al)) (And.intro (HF.out.2.2.2.2.1.below (al)) (HF.out.2.2.2.2.2.below (al)))))))
          have BXe := hide (Box.new x3 (.bool s5) (.slice m5 n5 c5))
          replace TV := hide (TV.out.below (al))
          have LT1e := hide (HF.out.2.1.lt)
          have LT3e := hide (HF.out.2.2.2.1.lt)
          have GEe := hide (HF.out.1.size)
          refine hK _ _ (fun _ => HF'.out) ?_
          clear hK K HF al
          have HF := hide HF'.out
          clear HF'
          generalize x3.alloc (.cells #[.bool s5, .slice m5 n5 c5] 25) = wze at *
          generalize x3.heap.size = ge at *
          refine Calm.one (i := 9) (l' := #[true, true, true, true, true, true, true, true, true, true, false]) (by kernel_rfl) rfl rfl rfl fun K hK => ?_
          obtain ⟨zx, ho, hx⟩ := HF.out.2.2.2.2.2
          have he0 := BXe.out.cell0
          have he1 := BXe.out.cell1
          refine wp_app2 _ (.tmp 33) (.tmp 41) 44 rfl wl.heap.size 25 _ Try.underlying44 TI.out.1 TI.out.2.1 TI.out.2.2.1 TI.out.2.2.2 u7 T.length zx rfl ho ge 1 s5 m5 n5 c5 rfl he0 he1 (by have := TL.out; omega) HF.out.1.size ?_
          intro vA xA ho' hg hob
          clear he0 he1
          refine hK _ _ (fun h => absurd h (by decide)) ?_
          clear hK K
          refine Calm.one (i := 10) (l' := #[true, true, true, true, true, true, true, true, true, true, true]) (by kernel_rfl) rfl rfl rfl fun K hK => ?_
          go_simp
          refine hK _ _ (fun h => absurd h (by decide)) ?_
          clear hK K
          refine Calm.done (by kernel_rfl) ?_
          have LA2 := hide (ListI.app ho hx TV.out ho' hg)
          have HB3 := hide (below_growQ HF.out.1 hg HF.out.1.size (fun g e => (HF.out.2.2.2.2.2.lt e).1))
          clear HF ho hx ho' hg hob TV BXe
          go_wp2
          go_roundw
          case rel => exact ⟨j + 1, by omega, by go_num, HB3.out, hide (by rw [ST.out]; exact LA2.out)⟩
          case measure => simp [intOf]; omega
        · have e : j = k := by omega
          subst e
          have LB : Hid (ListI wr wl.heap.size u7 (comQ qs)) := hide (by have hh := LA.out; rw [(show (comQ qs).take j = comQ qs from List.take_of_length_le (by rw [comQ_len, HN.out]; exact Nat.le_refl _))] at hh; exact hh)
          clear LA
          have R2 := hide (R0.out.step HB2.out)
          have HB4 := hide (HB.out.trans (HB2.out.mono HB.out.size))
          obtain ⟨la, lc, hlv⟩ := LB.out.slice
          subst hlv
          go_wp2_with fail
          refine wp_calm (fun w' => Below w.heap.size w w' ∧ Box w' w.heap.size (.bool false) (.slice none 0 0) ∧ Box w' g1 (.bool s1) (.slice m1 n1 c1) ∧ IntAt w' (.agg #[.bool s1, .slice m1 n1 c1]) (lcmQ qs) ∧ ListI w' wl.heap.size (.slice la (comQ qs).length lc) (comQ qs)) (fun j => j != 3) 4 #[false, false, false, false] (by kernel_rfl) rfl rfl ?_
          have HF := hide (And.intro (HB4.out.drew) (And.intro (R2.out.drew) (And.intro (P2.out.drew) (And.intro (I2.out.drew) (LB.out.drew)))))
          generalize wr.drew = wrd at *
          refine Calm.takeL 4 (i := 0) (v := ?_) (a' := ?_) (l' := #[true, false, false, false]) (d := some 44) (by kernel_rfl) rfl (by kernel_rfl) (by kernel_rfl) (by kernel_rfl) (by kernel_rfl) (fun _ _ _ h => h) HF.out rfl ?_ rfl rfl ?_ ?_
          rotate_left
          · intro w' hF; clear hF; go_simp; try rfl
          rotate_left
          · simp only [Act.put]; exact rfl
          refine Calm.takeL 4 (i := 1) (v := ?_) (a' := ?_) (l' := #[true, true, false, false]) (d := some 45) (by kernel_rfl) rfl (by kernel_rfl) (by kernel_rfl) (by kernel_rfl) (by kernel_rfl) (fun _ _ _ h => h) HF.out rfl ?_ rfl rfl ?_ ?_
          rotate_left
          · intro w' hF; have f10 := hF.2.1.cell0; have f11 := hF.2.1.cell1; have f20 := hF.2.2.1.cell0; have f21 := hF.2.2.1.cell1; clear hF; go_simp; try rfl
          rotate_left
          · simp only [Act.put]; exact rfl
          refine Calm.takeL 4 (i := 2) (v := ?_) (a' := ?_) (l' := #[true, true, true, false]) (d := some 2) (by kernel_rfl) rfl (by kernel_rfl) (by kernel_rfl) (by kernel_rfl) (by kernel_rfl) (fun _ _ _ h => h) HF.out rfl ?_ rfl rfl ?_ ?_
          rotate_left
          · intro w' hF; clear hF; go_simp; try rfl
          rotate_left
          · simp only [Act.put]; exact rfl
          refine Calm.one (i := 3) (l' := #[true, true, true, true]) (by kernel_rfl) rfl rfl rfl fun K hK => ?_
          have hc0 := HF.out.2.1.cell0
          have hc1 := HF.out.2.1.cell1
          have hf0 := HF.out.2.1.free 0
          have hf1 := HF.out.2.1.free 1
          go_simp
          refine hK _ _ (fun h => absurd h (by decide)) ?_
          clear hK K
          refine Calm.done (by kernel_rfl) ?_
          clear hc0 hc1 hf0 hf1
          go_wp2
          refine ret_lint rfl _ w.heap.size _ _ rfl rfl (HF.out.2.1.put _ _) rfl ?_
          exact ⟨_, _, rfl, (HF.out.2.2.2.2.high (high2 (by have h1 := LT1.out; have h2 := LT2.out; omega) _ _) (HF.out.2.1.keeps (by simp) (by simp) _ _)).ints, HF.out.2.2.2.1.keep (HF.out.2.1.keeps (by simp) (by simp) _ _), below_put HF.out.1 (Nat.le_refl _) _ _⟩

end Go.Proofs.Ytgkibmigbjjnnaa
