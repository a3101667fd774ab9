/- swageref14.Pass. -/
import Derived.Test.YtclopelniopjkaaShRr
import Derived.Test.YtclopelniopjkaaShPa
import Derived.Deep.CutRange
namespace Go.Proofs.Ytclopelniopjkaa
open Go.RowKit

theorem runS_ky (p : Pg) : ∀ k, KyOk (runS p k).keys
  | 0 => fun x hx => by simp [runS, begS] at hx
  | k + 1 => by
    have ih := runS_ky p k
    intro x hx
    replace hx : x ∈ ((runS p k).aft k (cd p.code k)).keys := hx
    unfold ShS.aft at hx
    split at hx
    · exact ih x hx
    · rcases List.mem_append.1 hx with hx | hx
      · exact ih x hx
      · simp only [List.mem_singleton] at hx
        subst hx
        exact keyI_ok _ _
theorem StAt.setHeld {w : World} {base S g cap : Nat} {vk : Value} {s : ShS} {m : Nat} (h : StAt w base S (.slice (some ⟨g, 0, none⟩) m cap) vk s) (t v : Int) : StAt (w.setCell ⟨g, t.toNat, none⟩ (.int .i64 v)) base S (.slice (some ⟨g, 0, none⟩) m cap) vk (s.set t v) := by
  have n1 : S ≠ g := by
    intro e
    subst e
    exact own_block_ne h.held h.box (by decide) rfl
  have n2 : vk.ownBlock ≠ some g := by
    rcases rows_ne h.keys h.held (by decide) with e | e
    · rw [e]; simp
    · exact e
  exact ⟨by have := h.box.other (C := g) (o := t.toNat) (Ne.symm n1) (.int .i64 v); simpa [ShS.set] using this, own_set_in h.held v, own_set_ne h.keys n2 _, h.ge⟩
theorem StillR.own {w w' : World} {base base' S n : Nat} {e : TypeId} {size : Nat} {v vk vh : Value} {xs : List Value} {s : ShS} (hs : StillR w w' S vk.ownBlock) (h : StAt w base S vh vk s) (ho : w.ownsRow base' e size v n xs) (h1 : e ≠ 43) (h2 : e ≠ 65) : w'.ownsRow base' e size v n xs := by
  refine ⟨ho.1, ?_⟩
  rcases ho.2 with h0 | ⟨g', cap, cur, rfl, hg, hh, r⟩
  · exact .inl h0
  · refine .inr ⟨g', cap, cur, rfl, hg, ?_, r⟩
    refine (hs.keep g' (Array.getElem?_eq_some_iff.1 hh).1 (fun e => ?_) (fun e => ?_)).trans hh
    · exact h1 (cells_type (e ▸ hh : w.heap[S]? = _) h.box)
    · exact own_block_ne h.keys hh (fun e => h2 e.symm) e.symm
theorem StillR.cells {w w' : World} {base S b : Nat} {e : TypeId} {vk vh : Value} {s : ShS} {c : Array Value} {f : Nat × Nat} (hs : StillR w w' S vk.ownBlock) (h : StAt w base S vh vk s) (ho : w.heap[b]? = some (.cells c e f)) (h1 : e ≠ 43) (h2 : e ≠ 65) : w'.heap[b]? = some (.cells c e f) :=
  (hs.keep b (Array.getElem?_eq_some_iff.1 ho).1 (fun e => h1 (cells_type (e ▸ ho : w.heap[S]? = _) h.box)) (fun e => own_block_ne h.keys ho (fun e => h2 e.symm) e.symm)).trans ho
/-- what is known within the pass: the state, what has been made -/
structure RPS (w0 w : World) (b2 : Nat) (p : Pg) (S O : Nat) (vh vk vc vo : Value) (s : ShS) (code : List Ins) (outs : List Int) : Prop where
  bel : Below w0.heap.size w0 w
  st : StAt w w0.heap.size S vh vk s
  box : Box4 w O 25 (.int .i64 p.ins) (.int .i64 p.regs) vc vo
  oc : OwnC w w0.heap.size vc code
  oo : OwnO w b2 vo outs
  vlt : (∀ k, vh.ownBlock = some k → k < b2) ∨ outs = []
  b2 : w0.heap.size ≤ b2 ∧ b2 ≤ w.heap.size
  ge : w0.heap.size ≤ O
section
variable {w0 w w' : World} {b2 : Nat} {p : Pg} {S O : Nat} {vh vk vc vo v' vk' : Value} {s s' : ShS} {code : List Ins} {outs : List Int}
theorem RPS.below (h : RPS w0 w b2 p S O vh vk vc vo s code outs) (hb : Below w.heap.size w w') : RPS w0 w' b2 p S O vh vk vc vo s code outs :=
  ⟨h.bel.trans (hb.mono h.bel.size), h.st.below hb, h.box.step hb, own_below h.oc hb, own_below h.oo hb, h.vlt, ⟨h.b2.1, Nat.le_trans h.b2.2 hb.size⟩, h.ge⟩
theorem RPS.drew (h : RPS w0 w b2 p S O vh vk vc vo s code outs) : RPS w0 w.drew b2 p S O vh vk vc vo s code outs := ⟨h.bel.drew, h.st.drew, h.box, h.oc, h.oo, h.vlt, h.b2, h.ge⟩
theorem RPS.reck (h : RPS w0 w b2 p S O vh vk vc vo s code outs) (hs : StillR w w' S vk.ownBlock) (hst : StAt w' w0.heap.size S vh vk' s') : RPS w0 w' b2 p S O vh vk' vc vo s' code outs :=
  ⟨h.bel.trans (hs.below h.bel.size h.st.ge (fun k hk => (World.ownsRow.lt h.st.keys k hk).1)), hst, hs.cells h.st h.box (by decide) (by decide), hs.own h.st h.oc (by decide) (by decide), hs.own h.st h.oo (by decide) (by decide), h.vlt, ⟨h.b2.1, Nat.le_trans h.b2.2 hs.bel.size⟩, h.ge⟩
theorem RPS.app (h : RPS w0 w b2 p S O vh vk vc vo s code outs) {l : List Ins} (hg : w.grownBy w' vc.ownBlock) (ho : OwnC w' w0.heap.size v' l) : RPS w0 (w'.setCell ⟨O, 2, none⟩ v') b2 p S O vh vk v' vo s l outs := by
  have n1 := own_block_ne h.oc h.box (by decide)
  have n2 := own_block_ne h.oc h.st.box (by decide)
  have bx : Box4 w' O _ _ _ _ _ := (hg.block O h.box.lt (fun e => n1 e.symm)).trans h.box
  have sb : Box3 w' S _ _ _ _ := (hg.block S h.st.box.lt (fun e => n2 e.symm)).trans h.st.box
  have hh := World.ownsRow.kept h.st.held hg (rows_ne h.st.held h.oc (by decide))
  have hk := World.ownsRow.kept h.st.keys hg (rows_ne h.st.keys h.oc (by decide))
  have hoo := World.ownsRow.kept h.oo hg (rows_ne h.oo h.oc (by decide))
  have nOS : O ≠ S := fun e => absurd (cells_type (e ▸ h.box : w.heap[S]? = _) h.st.box) (by decide)
  refine ⟨(h.bel.grown hg h.bel.size (fun k hk => (World.ownsRow.lt h.oc k hk).1)).setCell (p := ⟨O, 2, none⟩) h.ge _, ⟨sb.other nOS _, own_set_ne hh (own_block_ne hh bx (by decide)) _, own_set_ne hk (own_block_ne hk bx (by decide)) _, h.st.ge⟩, bx.set2 _, own_set_ne ho (own_block_ne ho bx (by decide)) _, own_set_ne hoo (own_block_ne hoo bx (by decide)) _, h.vlt, ⟨h.b2.1, by have h1 := hg.size; have h2 := h.b2.2; simp only [World.setCell, Array.size_modify]; omega⟩, h.ge⟩
theorem RPS.appO (h : RPS w0 w b2 p S O vh vk vc vo s code outs) {l : List Int} (hg : w.grownBy w' vo.ownBlock) (ho : OwnO w' b2 v' l) (hv : ∀ k, vh.ownBlock = some k → k < b2) : RPS w0 (w'.setCell ⟨O, 3, none⟩ v') b2 p S O vh vk vc v' s code l := by
  have n1 := own_block_ne h.oo h.box (by decide)
  have n2 := own_block_ne h.oo h.st.box (by decide)
  have bx : Box4 w' O _ _ _ _ _ := (hg.block O h.box.lt (fun e => n1 e.symm)).trans h.box
  have sb : Box3 w' S _ _ _ _ := (hg.block S h.st.box.lt (fun e => n2 e.symm)).trans h.st.box
  have hh := World.ownsRow.kept h.st.held hg (by
    cases e : vh.ownBlock with
    | none => exact .inl rfl
    | some k =>
      refine .inr fun e2 => ?_
      have h1 := hv k e
      have h2 := (World.ownsRow.lt h.oo k e2.symm).1
      omega)
  have hk := World.ownsRow.kept h.st.keys hg (rows_ne h.st.keys h.oo (by decide))
  have hcc := World.ownsRow.kept h.oc hg (rows_ne h.oc h.oo (by decide))
  have nOS : O ≠ S := fun e => absurd (cells_type (e ▸ h.box : w.heap[S]? = _) h.st.box) (by decide)
  refine ⟨(h.bel.grown hg h.bel.size (fun k hk => Nat.le_trans h.b2.1 (World.ownsRow.lt h.oo k hk).1)).setCell (p := ⟨O, 3, none⟩) h.ge _, ⟨sb.other nOS _, own_set_ne hh (own_block_ne hh bx (by decide)) _, own_set_ne hk (own_block_ne hk bx (by decide)) _, h.st.ge⟩, bx.set3 _, own_set_ne hcc (own_block_ne hcc bx (by decide)) _, own_set_ne ho (own_block_ne ho bx (by decide)) _, .inl hv, ⟨h.b2.1, by have h1 := hg.size; have h2 := h.b2.2; simp only [World.setCell, Array.size_modify]; omega⟩, h.ge⟩
end
theorem set_aft {s : ShS} {n : Int} {i : Ins} {t : Nat} {u : Int} (ht : t < s.held.length) (h : ot s.held t = u) : (s.aft n i).set t u = s.aft n i := by
  unfold ShS.set
  rw [aft_held, Int.toNat_natCast, set_ot ht h, ← aft_held s n i]
theorem RPS.setH {w0 w : World} {b2 : Nat} {p : Pg} {S O g cap m : Nat} {vk vc : Value} {s : ShS} {code : List Ins} (h : RPS w0 w b2 p S O (.slice (some ⟨g, 0, none⟩) m cap) vk vc (.slice none 0 0) s code []) (t v : Int) : RPS w0 (w.setCell ⟨g, t.toNat, none⟩ (.int .i64 v)) b2 p S O (.slice (some ⟨g, 0, none⟩) m cap) vk vc (.slice none 0 0) (s.set t v) code [] := by
  have n1 : g ≠ O := by
    intro e
    subst e
    exact own_block_ne h.st.held h.box (by decide) rfl
  have n2 : vc.ownBlock ≠ some g := by
    rcases rows_ne h.oc h.st.held (by decide) with e | e
    · rw [e]; simp
    · exact e
  exact ⟨h.bel.setCell (p := ⟨g, t.toNat, none⟩) (World.ownsRow.lt h.st.held g rfl).1 _, h.st.setHeld t v, h.box.set_ne n1 _, own_set_ne h.oc n2 _, World.ownsRow_nil _ _ _ _, .inr rfl, ⟨h.b2.1, by have := h.b2.2; simpa [World.setCell] using this⟩, h.ge⟩
theorem RPS.rebase {w0 w : World} {b2 : Nat} {p : Pg} {S O : Nat} {vh vk vc : Value} {s : ShS} {code : List Ins} (h : RPS w0 w b2 p S O vh vk vc (.slice none 0 0) s code []) : RPS w0 w w.heap.size p S O vh vk vc (.slice none 0 0) s code [] :=
  ⟨h.bel, h.st, h.box, h.oc, World.ownsRow_nil _ _ _ _, .inl (fun k hk => (World.ownsRow.lt h.st.held k hk).2), ⟨h.bel.size, Nat.le_refl _⟩, h.ge⟩
end Go.Proofs.Ytclopelniopjkaa
