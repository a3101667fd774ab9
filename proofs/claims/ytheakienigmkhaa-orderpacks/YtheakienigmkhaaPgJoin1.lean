/- Two programs that are put together: what is known of all blocks meanwhile. -/
import Derived.Test.YtheakienigmkhaaPgRaise
namespace Go.Proofs.Ytheakienigmkhaa
open Go.RowKit

theorem wr64 {n : Int} (h : -9223372036854775808 ≤ n) (h' : n ≤ 9223372036854775807) : IntKind.i64.wrap n = n := by rw [IntKind.wrap_i64]; omega
theorem box_row_ne {w : World} {B base : Nat} {e t : TypeId} {size n : Nat} {v x y z u : Value} {xs : List Value} (hB : Box4 w B t x y z u) (h : w.ownsRow base e size v n xs) (hne : e ≠ t) : v.ownBlock ≠ some B := by
  rcases h.2 with ⟨rfl, _⟩ | ⟨g, cap, cur, rfl, _, hh, _⟩
  · simp [Value.ownBlock]
  · intro h
    have e1 : g = B := by simpa [Value.ownBlock] using h
    subst e1
    rw [show w.heap[g]? = _ from hB] at hh
    simp only [Option.some.injEq, Obj.cells.injEq] at hh
    exact hne hh.2.1.symm
theorem rows_ne {w : World} {base base' : Nat} {e e' : TypeId} {size size' n n' : Nat} {v v' : Value} {xs xs' : List Value} (h : w.ownsRow base e size v n xs) (h' : w.ownsRow base' e' size' v' n' xs') (hne : e ≠ e') : v.ownBlock = none ∨ v.ownBlock ≠ v'.ownBlock := by
  rcases h.2 with ⟨rfl, _⟩ | ⟨g, cap, cur, rfl, _, hh, _⟩
  · exact .inl rfl
  · refine .inr fun h1 => ?_
    rcases h'.2 with ⟨rfl, _⟩ | ⟨g', cap', cur', rfl, _, hh', _⟩
    · simp [Value.ownBlock] at h1
    · have e1 : g = g' := by simpa [Value.ownBlock] using h1
      subst e1
      rw [hh] at hh'
      simp only [Option.some.injEq, Obj.cells.injEq] at hh'
      exact hne hh'.2.1
theorem own_set_ne {w : World} {base : Nat} {e : TypeId} {size n : Nat} {v : Value} {xs : List Value} (h : w.ownsRow base e size v n xs) {K o : Nat} (hne : v.ownBlock ≠ some K) (c : Value) : (w.setCell ⟨K, o, none⟩ c).ownsRow base e size v n xs := by
  refine ⟨h.1, ?_⟩
  rcases h.2 with h0 | ⟨g, cap, cur, rfl, hg, hh, r⟩
  · exact .inl h0
  · refine .inr ⟨g, cap, cur, rfl, hg, ?_, r⟩
    have : K ≠ g := fun e => hne (by simp [Value.ownBlock, e])
    show (w.heap.modify K _)[g]? = _
    rw [Array.getElem?_modify, if_neg this]; exact hh
theorem Box4.grow {w w' : World} {B : Nat} {t : TypeId} {x y z u : Value} (h : Box4 w B t x y z u) {row : Option Nat} (hg : w.grownBy w' row) (hne : row ≠ some B) : Box4 w' B t x y z u := (hg.block B h.lt (fun e => hne e.symm)).trans h

structure JS (w0 : World) (B C R K : Nat) (p q : Pg) (pc po qc qo vc vo : Value) (x : List Ins) (y : List Int) (w : World) : Prop where
  bel : Below w0.heap.size w0 w
  px : Box4 w B 25 (.int .i64 p.ins) (.int .i64 p.regs) pc po
  qx : Box4 w C 25 (.int .i64 q.ins) (.int .i64 q.regs) qc qo
  rx : Box4 w R 25 (.int .i64 0) (.int .i64 0) (.slice none 0 0) (.slice none 0 0)
  kx : Box4 w K 25 (.int .i64 p.ins) (.int .i64 (p.regs + q.regs)) vc vo
  oc : OwnC w w0.heap.size vc x
  oo : OwnO w w0.heap.size vo y
  ne : B ≠ K ∧ C ≠ K ∧ R ≠ K ∧ w0.heap.size ≤ K ∧ w0.heap.size ≤ R
section
variable {w0 w w' : World} {B C R K : Nat} {p q : Pg} {pc po qc qo vc vo : Value} {x : List Ins} {y : List Int}
theorem JS.step (h : JS w0 B C R K p q pc po qc qo vc vo x y w) (hb : Below w.heap.size w w') : JS w0 B C R K p q pc po qc qo vc vo x y w' :=
  ⟨h.bel.trans (hb.mono h.bel.size), h.px.step hb, h.qx.step hb, h.rx.step hb, h.kx.step hb, own_below h.oc hb, own_below h.oo hb, h.ne⟩
theorem JS.drew (h : JS w0 B C R K p q pc po qc qo vc vo x y w) : JS w0 B C R K p q pc po qc qo vc vo x y w.drew :=
  ⟨h.bel.drew, h.px, h.qx, h.rx, h.kx, h.oc, h.oo, h.ne⟩
theorem JS.app {v' : Value} {x' : List Ins} (h : JS w0 B C R K p q pc po qc qo vc vo x y w) (hg : w.grownBy w' vc.ownBlock) (ho : OwnC w' w0.heap.size v' x') :
    JS w0 B C R K p q pc po qc qo v' vo x' y (w'.setCell ⟨K, 2, none⟩ v') := by
  have n1 := box_row_ne h.px h.oc (by decide)
  have n2 := box_row_ne h.qx h.oc (by decide)
  have n3 := box_row_ne h.rx h.oc (by decide)
  have n4 := box_row_ne h.kx h.oc (by decide)
  have kx' := h.kx.grow hg n4
  refine ⟨?_, (h.px.grow hg n1).set_ne (fun e => h.ne.1 e.symm) _, (h.qx.grow hg n2).set_ne (fun e => h.ne.2.1 e.symm) _, (h.rx.grow hg n3).set_ne (fun e => h.ne.2.2.1 e.symm) _, kx'.set2 _, ?_, ?_, h.ne⟩
  · exact (h.bel.grown hg h.bel.size (fun k hk => (h.oc.lt k hk).1)).setCell (p := ⟨K, 2, none⟩) h.ne.2.2.2.1 _
  · exact own_set_ne ho (box_row_ne kx' ho (by decide)) _
  · have oo' := World.ownsRow.kept h.oo hg (rows_ne h.oo h.oc (by decide))
    exact own_set_ne oo' (box_row_ne kx' oo' (by decide)) _
theorem JS.appO {v' : Value} {y' : List Int} (h : JS w0 B C R K p q pc po qc qo vc vo x y w) (hg : w.grownBy w' vo.ownBlock) (ho : OwnO w' w0.heap.size v' y') :
    JS w0 B C R K p q pc po qc qo vc v' x y' (w'.setCell ⟨K, 3, none⟩ v') := by
  have n1 := box_row_ne h.px h.oo (by decide)
  have n2 := box_row_ne h.qx h.oo (by decide)
  have n3 := box_row_ne h.rx h.oo (by decide)
  have n4 := box_row_ne h.kx h.oo (by decide)
  have kx' := h.kx.grow hg n4
  refine ⟨?_, (h.px.grow hg n1).set_ne (fun e => h.ne.1 e.symm) _, (h.qx.grow hg n2).set_ne (fun e => h.ne.2.1 e.symm) _, (h.rx.grow hg n3).set_ne (fun e => h.ne.2.2.1 e.symm) _, kx'.set3 _, ?_, ?_, h.ne⟩
  · exact (h.bel.grown hg h.bel.size (fun k hk => (h.oo.lt k hk).1)).setCell (p := ⟨K, 3, none⟩) h.ne.2.2.2.1 _
  · have oc' := World.ownsRow.kept h.oc hg (rows_ne h.oc h.oo (by decide))
    exact own_set_ne oc' (box_row_ne kx' oc' (by decide)) _
  · exact own_set_ne ho (box_row_ne kx' ho (by decide)) _
end
theorem code1 (w : World) (i : Ins) {n : Nat} (hn : n = w.heap.size) : CodeAt (w.alloc (.cells #[.int .i64 i.op, .int .i64 i.to, .int .i64 i.a, .int .i64 i.b, .int .i64 i.c] 40)) (.slice (some ⟨n, 0, none⟩) 1 1) [i] := by
  subst hn
  refine ⟨_, 1, rfl, Nat.le_refl _, by simp [maxLen], fun _ => ⟨_, _, rfl, fun k hk => ?_⟩⟩
  have : k = 0 := by have : k < 1 := hk; omega
  subst this
  exact (Box5.new w 40 i).cells
theorem int1 (w : World) (i : Int) {n : Nat} (hn : n = w.heap.size) : IntsAt (w.alloc (.cells #[.int .i64 i] 3)) (.slice (some ⟨n, 0, none⟩) 1 1) [i] := by
  subst hn
  refine ⟨_, 1, rfl, Nat.le_refl _, by simp [maxLen], fun _ => ⟨_, _, rfl, fun k hk => ?_⟩⟩
  have : k = 0 := by have : k < 1 := hk; omega
  subst this
  have hh := heap_alloc_new w (.cells #[.int .i64 i] 3)
  generalize w.alloc (.cells #[.int .i64 i] 3) = W at hh ⊢
  generalize w.heap.size = B at hh ⊢
  simp [World.cell?, hh, ot]
/-- a program and a word are handed back -/
theorem ret_pge {fn : Func} {R : Ending → World → Prop} {a : Act} {w : World} {p u : Tmp} (h : fn.results = #[.cell p 25, .tmp u]) (g : Nat) (x y z v : Value)
    (hp : a.tmps.getD p undef = .pointer (some ⟨g, 0, none⟩)) (hg : Box4 w g 25 x y z v) (hd : a.defers = []) (hR : R (.returned (.tuple #[.agg #[x, y, z, v], a.tmps.getD u undef])) w) : bodyPost Try.prog fn R .ret a w := by
  refine bodyPost_ret ?_ hd hR
  have hp' : a.tmps[p]?.getD undef = .pointer (some ⟨g, 0, none⟩) := by simpa using hp
  simp [results, h, hp', asAddr, run_loadVar_row w g 25 25 #[x, y, z, v] (0, 0) _ hg Try.underlying25 rfl info_prog]

/-- the first k moves; the first k instructions raised; the first k outs raised -/
def mvI (p : Pg) (k : Nat) : Ins := ⟨1, p.regs + k, ot p.outs k, 0, 0⟩
def mvs (p : Pg) (k : Nat) : List Ins := (List.range k).map (mvI p)
def rsd (p q : Pg) (k : Nat) : List Ins := (List.range k).map (fun j => raiseI (cd q.code j) p.regs)
def ots (p q : Pg) (k : Nat) : List Int := (List.range k).map (fun j => p.regs + ot q.outs j)
theorem mvs_succ (p : Pg) (k : Nat) : mvs p (k + 1) = mvs p k ++ [mvI p k] := by unfold mvs; rw [List.range_succ, List.map_append]; rfl
theorem rsd_succ (p q : Pg) (k : Nat) : rsd p q (k + 1) = rsd p q k ++ [raiseI (cd q.code k) p.regs] := by unfold rsd; rw [List.range_succ, List.map_append]; rfl
theorem ots_succ (p q : Pg) (k : Nat) : ots p q (k + 1) = ots p q k ++ [p.regs + ot q.outs k] := by unfold ots; rw [List.range_succ, List.map_append]; rfl
theorem mvs_length (p : Pg) (k : Nat) : (mvs p k).length = k := by simp [mvs]
theorem rsd_length (p q : Pg) (k : Nat) : (rsd p q k).length = k := by simp [rsd]
theorem ots_length (p q : Pg) (k : Nat) : (ots p q k).length = k := by simp [ots]
def joined (p q : Pg) : Pg := ⟨p.ins, p.regs + q.regs, p.code ++ mvs p p.outs.length ++ rsd p q q.code.length, ots p q q.outs.length⟩
def noPg : Pg := ⟨0, 0, [], []⟩
/-- why two programs that may be are not put together: nought: they are -/
def joinE (p q : Pg) : Int := if q.ins ≠ p.outs.length then 5 else if 128 < p.regs + q.regs ∨ 16384 < (p.code.length : Int) + q.ins + q.code.length then 3 else 0
def joinP (p q : Pg) : Pg := if joinE p q = 0 then joined p q else noPg
def JoinR (w' : World) (e : Ending) (c : Int) (p : Pg) : Prop := ∃ v, e = .returned (.tuple #[v, .int .i64 c]) ∧ PgAt w' v p
theorem right_parts {p : Pg} (h : rightB p = true) : 1 ≤ p.ins ∧ p.ins ≤ p.regs ∧ p.regs ≤ 128 ∧ p.code.length ≤ 16384 ∧ 1 ≤ p.outs.length ∧ p.outs.length ≤ 128 ∧ (∀ k, k < p.outs.length → 0 ≤ ot p.outs k ∧ ot p.outs k < p.regs) ∧ (∀ k, k < p.code.length → mayB (cd p.code k) p.regs = true) := by
  unfold rightB headB numB at h
  simp only [Bool.and_eq_true, decide_eq_true_eq] at h
  obtain ⟨⟨⟨⟨⟨⟨⟨h1, h2⟩, h3⟩, h4⟩, h5⟩, h6⟩, h7⟩, h8⟩ := h
  refine ⟨h1, h2, h3, h4, h5, h6, fun k hk => ?_, fun k hk => ?_⟩
  · rw [List.all_eq_true] at h7
    have := h7 _ (List.getElem_mem hk)
    rw [← ot_lt hk] at this
    unfold regB at this
    simpa using this
  · unfold badAt at h8
    rw [List.findIdx_eq_length] at h8
    have := h8 _ (List.getElem_mem hk)
    rw [← cd_lt hk] at this
    simpa using this
theorem may_parts {i : Ins} {regs : Int} (h : mayB i regs = true) : 0 ≤ i.to ∧ i.to < regs ∧ 0 ≤ i.a ∧ i.a < regs ∧ 0 ≤ i.b ∧ i.b < regs ∧ 1 ≤ i.op ∧ i.op ≤ 8 ∧ constB i.op i.c = true ∧ (i.b = 0 ∨ twoB i.op = true) := by
  unfold mayB regB at h
  simp only [Bool.and_eq_true, Bool.or_eq_true, decide_eq_true_eq] at h
  obtain ⟨⟨h0, ⟨⟨h1, h2⟩, h3, h4⟩, h5, h6⟩, h7⟩ := h
  have : 1 ≤ i.op ∧ i.op ≤ 8 := by
    unfold constB at h0
    split at h0
    · omega
    · split at h0
      · omega
      · split at h0
        · omega
        · cases h0
  exact ⟨h1, h2, h3, h4, h5, h6, this.1, this.2, h0, h7⟩
end Go.Proofs.Ytheakienigmkhaa
