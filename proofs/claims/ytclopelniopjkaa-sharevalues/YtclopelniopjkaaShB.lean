/- The book of values in memory: what registers hold, a map from keys to values, the next value. -/
import Derived.Test.YtclopelniopjkaaShM
import Derived.Test.YtclopelniopjkaaPgCopy
import Derived.Maps.OwnSet
import Derived.Maps.OwnOps
import Derived.Maps.Views
import Derived.DeepKeys4
import Derived.Deep.OwnRows
namespace Go.Proofs.Ytclopelniopjkaa
open Go.RowKit

/-! ### keys -/
def kK (k : K4) : Value := .agg #[.int .i64 k.1, .int .i64 k.2.1, .int .i64 k.2.2.1, .int .i64 k.2.2.2]
abbrev keyL (k : K4) (kl : Lit) : Prop := keyOf Try.prog 102 (kK k) = some kl
theorem Try.laidOutK : laidOutB Try.prog = true := by kernel_rfl
theorem Try.shKeyed : Go.Maps.Keyed Try.prog 102 :=
  Go.Maps.Keyed.of_law (deep_law_laid Try.laidOutK (m := 2) (by omega) (of_decide_eq_true (by kernel_rfl)) (by kernel_rfl) (by rw [Try.underlying102]))
theorem Try.shKey (k : K4) (ha : (Lit.int .i64 k.1).wf = true) (hb : (Lit.int .i64 k.2.1).wf = true) (hc : (Lit.int .i64 k.2.2.1).wf = true) (hd : (Lit.int .i64 k.2.2.2).wf = true) : ∃ kl, keyL k kl := by
  have hcl : Try.prog.cellsOf 102 = 4 := by kernel_rfl
  have hi : Try.prog.cellsOf 3 = 1 := by kernel_rfl
  have hk : Try.prog.keyType 102 = true := by kernel_rfl
  obtain ⟨m, hm⟩ : ∃ m, Try.prog.types.size = m + 1 := by
    have h0 : 102 < Try.prog.types.size := of_decide_eq_true (by kernel_rfl)
    exact ⟨Try.prog.types.size - 1, by omega⟩
  unfold keyL kK keyOf
  simp only [Try.underlying102]
  rw [if_pos (by simp [hk, Value.formed, Try.underlying102, hcl]), hm]
  unfold Program.keyLits
  simp only [Try.underlying102, Value.cells]
  rw [if_pos ⟨by rw [hcl]; rfl, by kernel_rfl⟩]
  simp only [List.mapM_cons, List.mapM_nil, hi]
  simp [Program.keyLits, Try.underlying3, ha, hb, hc, hd]
theorem Try.shInj {k k' : K4} {kl : Lit} (h : keyL k kl) (h' : keyL k' kl) : k = k' := by
  have := Try.shKeyed.inj h h'
  unfold kK at this
  obtain ⟨a, b, c, d⟩ := k
  obtain ⟨a', b', c', d'⟩ := k'
  simpa using this

/-! ### what stands behind a key -/
def entD (v f : Int) : DataW Unit := .agg [.lit (.int .i64 v), .lit (.int .i64 f)]
def entR : Value → Option (DataW Unit × List MemPlace)
  | .agg ⟨[.int .i64 a, .int .i64 b]⟩ => some (entD a b, [])
  | _ => none
theorem entR_mk (a b : Int) : entR (.agg #[.int .i64 a, .int .i64 b]) = some (entD a b, []) := rfl
theorem entR_inv {v : Value} {z : DataW Unit × List MemPlace} (h : entR v = some z) : ∃ a b, v = .agg #[.int .i64 a, .int .i64 b] ∧ z = (entD a b, []) := by
  unfold entR at h
  split at h
  · cases h; exact ⟨_, _, rfl, rfl⟩
  · cases h
theorem entD_inj {a b c d : Int} (h : entD a b = entD c d) : a = c ∧ b = d := by
  unfold entD at h
  simpa using h
/-- the map holds just these keys -/
structure BkMap (ks : List (K4 × Int × Int)) (D : DataW Unit) : Prop where
  yes : ∀ k kl e, keyL k kl → look ks k = some e → Maps.has D kl = true ∧ D.atKey kl (entD 0 0) = entD e.1 e.2
  no : ∀ k kl, keyL k kl → look ks k = none → Maps.has D kl = false
theorem BkMap.start : BkMap [] (.map []) := ⟨fun k kl e _ h => by simp [look] at h, fun _ _ _ _ => by simp [Maps.has]⟩
theorem look_app (ks : List (K4 × Int × Int)) (k k' : K4) (e : Int × Int) : look (ks ++ [(k, e)]) k' = (look ks k').or (if k = k' then some e else none) := by
  unfold look
  rw [List.find?_append]
  cases h : ks.find? (fun x => x.1 == k') with
  | some x => simp
  | none => by_cases hk : k = k' <;> simp [hk]
theorem BkMap.new {ks : List (K4 × Int × Int)} {D : DataW Unit} (h : BkMap ks D) {k : K4} {kl : Lit} (hk : keyL k kl) (hn : look ks k = none) (hm : Maps.IsMap D) (e : Int × Int) : BkMap (ks ++ [(k, e)]) (D.put kl (entD e.1 e.2)) := by
  have hkl := Try.shKeyed.key hk
  refine ⟨fun k' kl' e' hk' hl => ?_, fun k' kl' hk' hl => ?_⟩
  · rw [look_app] at hl
    by_cases hc : k = k'
    · subst hc
      rw [hn] at hl
      have : kl' = kl := Option.some.inj ((show _ = some kl' from hk').symm.trans (show _ = some kl from hk))
      subst this
      simp at hl
      subst hl
      exact ⟨Maps.has_put_same hm hkl _, Maps.atKey_put_same hm hkl _ _⟩
    · rw [if_neg hc] at hl
      have hne : kl' ≠ kl := fun e => hc (Try.shInj (by rw [e] at hk'; exact hk) (by rw [e] at hk'; exact hk'))
      rw [Maps.has_put_other hne, Maps.atKey_put_other hne]
      exact h.yes k' kl' e' hk' (by simpa using hl)
  · rw [look_app] at hl
    by_cases hc : k = k'
    · rw [if_pos hc] at hl
      simp at hl
    · rw [if_neg hc] at hl
      have hne : kl' ≠ kl := fun e => hc (Try.shInj (by rw [e] at hk'; exact hk) (by rw [e] at hk'; exact hk'))
      rw [Maps.has_put_other hne]
      exact h.no k' kl' hk' (by simpa using hl)
theorem Try.zeroEnt (w : World) : (zeroValue 60).run Try.prog w = .ok (.agg #[.int .i64 0, .int .i64 0]) w := by kernel_rfl
theorem look_yes {w : World} {b n : Nat} {ks : List (K4 × Int × Int)} {D : DataW Unit} (h : w.ownsMap Try.prog 102 entR b n D) (hm : BkMap ks D) {k : K4} {kl : Lit} (hk : keyL k kl) {e : Int × Int} (hl : look ks k = some e) :
    (Instr.lookup 84 (.map (some b)) (kK k) true).run Try.prog w = .ok (.tuple #[.agg #[.int .i64 e.1, .int .i64 e.2], .bool true]) w := by
  obtain ⟨v, ps, hrun, hv⟩ := h.look_ok Try.shKeyed Try.underlying84 (Try.zeroEnt w) (entR_mk 0 0) hk
  obtain ⟨h1, h2⟩ := hm.yes k kl e hk hl
  rw [h2] at hv
  obtain ⟨a, c, rfl, hz⟩ := entR_inv hv
  simp only [Prod.mk.injEq] at hz
  obtain ⟨rfl, rfl⟩ := entD_inj hz.1
  rw [hrun, h1]
theorem look_no {w : World} {b n : Nat} {ks : List (K4 × Int × Int)} {D : DataW Unit} (h : w.ownsMap Try.prog 102 entR b n D) (hm : BkMap ks D) {k : K4} {kl : Lit} (hk : keyL k kl) (hl : look ks k = none) :
    ∃ x y : Int, ∀ w' : World, w'.ownsMap Try.prog 102 entR b n D → (Instr.lookup 84 (.map (some b)) (kK k) true).run Try.prog w' = .ok (.tuple #[.agg #[.int .i64 x, .int .i64 y], .bool false]) w' := by
  obtain ⟨v, ps, hrun, hv⟩ := h.look_ok Try.shKeyed Try.underlying84 (Try.zeroEnt w) (entR_mk 0 0) hk
  obtain ⟨x, y, rfl, hz⟩ := entR_inv hv
  refine ⟨x, y, fun w' h' => ?_⟩
  obtain ⟨v', ps', hrun', hv'⟩ := h'.look_ok Try.shKeyed Try.underlying84 (Try.zeroEnt w') (entR_mk 0 0) hk
  obtain ⟨x', y', rfl, hz'⟩ := entR_inv hv'
  simp only [Prod.mk.injEq] at hz hz'
  obtain ⟨rfl, rfl⟩ := entD_inj (hz'.1.symm.trans hz.1)
  rw [hrun', hm.no k kl hk hl]

/-! ### a row of numbers -/
def IntRow (w : World) (g : Nat) (l : List Int) : Prop := w.heap[g]? = some (.cells (l.map (Value.int .i64)).toArray 3 (0, 0))
theorem IntRow.lt {w : World} {g : Nat} {l : List Int} (h : IntRow w g l) : g < w.heap.size := (Array.getElem?_eq_some_iff.1 h).1
theorem IntRow.step {w w' : World} {g : Nat} {l : List Int} (h : IntRow w g l) (hb : Below w.heap.size w w') : IntRow w' g l := (hb.block g h.lt).trans h
theorem IntRow.drew {w : World} {g : Nat} {l : List Int} (h : IntRow w g l) : IntRow w.drew g l := h
theorem IntRow.cell {w : World} {g : Nat} {l : List Int} (h : IntRow w g l) {j : Nat} (hj : j < l.length) : w.cell? ⟨g, j, none⟩ = some (.int .i64 (ot l j)) := by
  simp [World.cell?, show w.heap[g]? = _ from h, hj, ot_lt]
theorem IntRow.free {w : World} {g : Nat} {l : List Int} (h : IntRow w g l) (j : Nat) : w.frozen? ⟨g, j, none⟩ = false := by simp [World.frozen?, show w.heap[g]? = _ from h]
theorem IntRow.set {w : World} {g : Nat} {l : List Int} (h : IntRow w g l) (j : Nat) (v : Int) : IntRow (w.setCell ⟨g, j, none⟩ (.int .i64 v)) g (l.set j v) := by
  obtain ⟨hlt, hk⟩ := Array.getElem?_eq_some_iff.1 h
  show (w.heap.modify g _)[g]? = _
  rw [Array.getElem?_eq_getElem (by rw [Array.size_modify]; exact hlt), Array.getElem_modify_self, hk]
  simp
theorem IntRow.other {w : World} {g : Nat} {l : List Int} (h : IntRow w g l) {b : Nat} (hne : b ≠ g) (o : Nat) (c : Value) : IntRow (w.setCell ⟨b, o, none⟩ c) g l := by
  show (w.heap.modify b _)[g]? = _
  rw [Array.getElem?_modify, if_neg hne]; exact h
theorem IntRow.new (w : World) (n : Nat) : IntRow (w.alloc (.cells (madeCells #[.int .i64 0] n) 3)) w.heap.size (List.replicate n 0) := by
  have hh := heap_alloc_new w (.cells (madeCells #[.int .i64 0] n) 3)
  unfold IntRow
  rw [hh]
  congr 2
  apply Array.ext
  · simp [madeCells]
  · intro i h1 h2
    simp [madeCells, Nat.mod_one]
theorem IntRow.own {w : World} {g base : Nat} {l : List Int} (h : IntRow w g l) (hb : base ≤ g) (hl : l.length ≤ maxLen) : OwnO w base (.slice (some ⟨g, 0, none⟩) l.length l.length) l :=
  ⟨by simp [intCells], .inr ⟨g, l.length, _, rfl, hb, h, Nat.le_refl _, hl, by simp, by simp [intCells]; exact List.take_of_length_le (by simp)⟩⟩
theorem Try.infoIntC : (Try.prog.info? 3).map (fun i => (i.zero, i.size, i.bytes)) = some (some (.int .i64 0), 1, 8) := by kernel_rfl
theorem run_makeN (n : Nat) (hn : n ≤ 1000000) (w : World) :
    (Instr.makeSlice 23 (.int .i64 n) (.int .i64 n)).run Try.prog w = .ok (.slice (some ⟨w.heap.size, 0, none⟩) n n) (w.alloc (.cells (madeCells #[.int .i64 0] n) 3)) := by
  obtain ⟨i0, hi, hz0, hz1, hz2⟩ := info_parts Try.infoIntC
  have hr := run_make (P := Try.prog) w 23 3 i0 (.int .i64 0) Try.underlying23 hi hz0 .i64 .i64 n n (by omega) (Int.le_refl _) (by rw [hz2]; omega) (by omega)
  rw [hr]
  simp only [Int.toNat_natCast, hz1, Nat.mul_one]
  rfl

/-! ### the book -/
def Box3 (W : World) (B : Nat) (t : TypeId) (x y z : Value) : Prop := W.heap[B]? = some (.cells #[x, y, z] t (0, 0))
theorem Box3.cell0 {W : World} {B : Nat} {t : TypeId} {x y z : Value} (h : Box3 W B t x y z) : W.cell? ⟨B, 0, none⟩ = some x := by simp [World.cell?, show W.heap[B]? = _ from h]
theorem Box3.cell1 {W : World} {B : Nat} {t : TypeId} {x y z : Value} (h : Box3 W B t x y z) : W.cell? ⟨B, 1, none⟩ = some y := by simp [World.cell?, show W.heap[B]? = _ from h]
theorem Box3.cell2 {W : World} {B : Nat} {t : TypeId} {x y z : Value} (h : Box3 W B t x y z) : W.cell? ⟨B, 2, none⟩ = some z := by simp [World.cell?, show W.heap[B]? = _ from h]
theorem Box3.free {W : World} {B : Nat} {t : TypeId} {x y z : Value} (h : Box3 W B t x y z) (o : Nat) : W.frozen? ⟨B, o, none⟩ = false := by simp [World.frozen?, show W.heap[B]? = _ from h]
theorem Box3.lt {W : World} {B : Nat} {t : TypeId} {x y z : Value} (h : Box3 W B t x y z) : B < W.heap.size := (Array.getElem?_eq_some_iff.1 h).1
theorem Box3.step {W W' : World} {B : Nat} {t : TypeId} {x y z : Value} (h : Box3 W B t x y z) (hb : Below W.heap.size W W') : Box3 W' B t x y z := (hb.block B h.lt).trans h
theorem Box3.drew {W : World} {B : Nat} {t : TypeId} {x y z : Value} (h : Box3 W B t x y z) : Box3 W.drew B t x y z := h
theorem Box3.new (W : World) (t : TypeId) (x y z : Value) : Box3 (W.alloc (.cells #[x, y, z] t)) W.heap.size t x y z := heap_alloc_new _ _
theorem Box3.other {W : World} {B C o : Nat} {t : TypeId} {x y z : Value} (h : Box3 W B t x y z) (hne : C ≠ B) (c : Value) : Box3 (W.setCell ⟨C, o, none⟩ c) B t x y z := by
  show (W.heap.modify C _)[B]? = _
  rw [Array.getElem?_modify, if_neg hne]; exact h
theorem Box3.set {W : World} {B : Nat} {t : TypeId} {x y z : Value} (h : Box3 W B t x y z) (o : Nat) (c : Value) : (W.setCell ⟨B, o, none⟩ c).heap[B]? = some (.cells (#[x, y, z].setIfInBounds o c) t (0, 0)) := by
  obtain ⟨hlt, hk⟩ := Array.getElem?_eq_some_iff.1 h
  show (W.heap.modify B _)[B]? = _
  rw [Array.getElem?_eq_getElem (by rw [Array.size_modify]; exact hlt), Array.getElem_modify_self, hk]
  rfl
theorem Box3.set0 {W : World} {B : Nat} {t : TypeId} {x y z : Value} (h : Box3 W B t x y z) (c : Value) : Box3 (W.setCell ⟨B, 0, none⟩ c) B t c y z := h.set 0 c
theorem Box3.set1 {W : World} {B : Nat} {t : TypeId} {x y z : Value} (h : Box3 W B t x y z) (c : Value) : Box3 (W.setCell ⟨B, 1, none⟩ c) B t x c z := h.set 1 c
theorem Box3.set2 {W : World} {B : Nat} {t : TypeId} {x y z : Value} (h : Box3 W B t x y z) (c : Value) : Box3 (W.setCell ⟨B, 2, none⟩ c) B t x y c := h.set 2 c
theorem mapAt_below {w w' : World} {k : TypeId} {R : Value → Option (DataW Unit × List MemPlace)} {b n : Nat} {D : DataW Unit} (h : w.ownsMap Try.prog k R b n D) (hb : Below w.heap.size w w') : w'.ownsMap Try.prog k R b n D := by
  have lt := h.lt
  obtain ⟨es, clock, hh, F, hs, hD⟩ := h
  exact ⟨es, clock, (hb.block b lt).trans hh, F, hs, hD⟩
theorem mapAt_set {w : World} {k : TypeId} {R : Value → Option (DataW Unit × List MemPlace)} {b n : Nat} {D : DataW Unit} (h : w.ownsMap Try.prog k R b n D) {B o : Nat} {cur : Array Value} {e : TypeId} {f : Nat × Nat} (hB : w.heap[B]? = some (.cells cur e f)) (c : Value) : (w.setCell ⟨B, o, none⟩ c).ownsMap Try.prog k R b n D := by
  obtain ⟨es, clock, hh, F, hs, hD⟩ := h
  refine ⟨es, clock, ?_, F, hs, hD⟩
  have : B ≠ b := by
    intro e1
    subst e1
    rw [hB] at hh
    simp at hh
  show (w.heap.modify B _)[b]? = _
  rw [Array.getElem?_modify, if_neg this]; exact hh
structure BookAt (w : World) (base B g m n : Nat) (D : DataW Unit) (s : ShS) : Prop where
  box : Box3 w B 86 (.slice (some ⟨g, 0, none⟩) s.held.length s.held.length) (.map (some m)) (.int .i64 s.next)
  row : IntRow w g s.held
  map : w.ownsMap Try.prog 102 entR m n D
  keys : BkMap s.keys D
  ge : base ≤ B ∧ base ≤ g ∧ base ≤ m
theorem BookAt.below {w w' : World} {base B g m n : Nat} {D : DataW Unit} {s : ShS} (h : BookAt w base B g m n D s) (hb : Below w.heap.size w w') : BookAt w' base B g m n D s :=
  ⟨h.box.step hb, h.row.step hb, mapAt_below h.map hb, h.keys, h.ge⟩
theorem BookAt.drew {w : World} {base B g m n : Nat} {D : DataW Unit} {s : ShS} (h : BookAt w base B g m n D s) : BookAt w.drew base B g m n D s := ⟨h.box, h.row, h.map, h.keys, h.ge⟩
theorem BookAt.ne {w : World} {base B g m n : Nat} {D : DataW Unit} {s : ShS} (h : BookAt w base B g m n D s) : B ≠ g := by
  intro e
  subst e
  have h1 := h.box
  have h2 := h.row
  unfold Box3 at h1
  unfold IntRow at h2
  rw [h1] at h2
  simp only [Option.some.injEq, Obj.cells.injEq] at h2
  exact absurd h2.2.1 (by decide)
theorem BookAt.set {w : World} {base B g m n : Nat} {D : DataW Unit} {s : ShS} (h : BookAt w base B g m n D s) (t v : Int) : BookAt (w.setCell ⟨g, t.toNat, none⟩ (.int .i64 v)) base B g m n D (s.set t v) := by
  refine ⟨?_, h.row.set _ _, mapAt_set h.map h.row _, h.keys, h.ge⟩
  have := h.box.other (C := g) (o := t.toNat) (Ne.symm h.ne) (.int .i64 v)
  simpa [ShS.set] using this
end Go.Proofs.Ytclopelniopjkaa
