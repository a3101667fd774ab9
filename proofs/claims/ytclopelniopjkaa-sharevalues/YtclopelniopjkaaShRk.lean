/- share's reckon: the value of an instruction, and the first one with its key. -/
import Derived.Test.YtclopelniopjkaaShK
namespace Go.Proofs.Ytclopelniopjkaa
open Go.RowKit

/-- all blocks stand but three -/
structure Still (w w' : World) (B g m : Nat) : Prop where
  bel : Below 0 w w'
  keep : ∀ k, k < w.heap.size → k ≠ B → k ≠ g → k ≠ m → w'.heap[k]? = w.heap[k]?
theorem Still.of_below {w w' : World} {B g m : Nat} (h : Below w.heap.size w w') : Still w w' B g m := ⟨h.mono (Nat.zero_le _), fun k hk _ _ _ => h.block k hk⟩
theorem Still.refl (w : World) (B g m : Nat) : Still w w B g m := Still.of_below (Below.refl _ _)
theorem Still.trans {a b c : World} {B g m : Nat} (h : Still a b B g m) (k : Still b c B g m) : Still a c B g m :=
  ⟨h.bel.trans k.bel, fun i hi h1 h2 h3 => (k.keep i (Nat.lt_of_lt_of_le hi h.bel.size) h1 h2 h3).trans (h.keep i hi h1 h2 h3)⟩
theorem Still.drew {w w' : World} {B g m : Nat} (h : Still w w' B g m) : Still w w'.drew B g m := ⟨h.bel.drew, h.keep⟩
theorem Still.setB {a w : World} {B g m : Nat} (h : Still a w B g m) (o : Nat) (c : Value) : Still a (w.setCell ⟨B, o, none⟩ c) B g m :=
  ⟨h.bel.setCell (p := ⟨B, o, none⟩) (Nat.zero_le _) c, fun k hk h1 h2 h3 => (Below.heap_setCell w ⟨B, o, none⟩ c k h1).trans (h.keep k hk h1 h2 h3)⟩
theorem Still.setG {a w : World} {B g m : Nat} (h : Still a w B g m) (o : Nat) (c : Value) : Still a (w.setCell ⟨g, o, none⟩ c) B g m :=
  ⟨h.bel.setCell (p := ⟨g, o, none⟩) (Nat.zero_le _) c, fun k hk h1 h2 h3 => (Below.heap_setCell w ⟨g, o, none⟩ c k h2).trans (h.keep k hk h1 h2 h3)⟩
theorem Still.setNew {a w : World} {B g m : Nat} (h : Still a w B g m) {b : Nat} (hb : a.heap.size ≤ b) (o : Nat) (c : Value) : Still a (w.setCell ⟨b, o, none⟩ c) B g m :=
  ⟨h.bel.setCell (p := ⟨b, o, none⟩) (Nat.zero_le _) c, fun k hk h1 h2 h3 => (Below.heap_setCell w ⟨b, o, none⟩ c k (by show k ≠ b; omega)).trans (h.keep k hk h1 h2 h3)⟩
theorem Still.grown {a w w' : World} {B g m : Nat} (h : Still a w B g m) (hg : w.grownBy w' (some m)) : Still a w' B g m :=
  ⟨h.bel.grown hg (Nat.zero_le _) (fun _ _ => Nat.zero_le _), fun k hk h1 h2 h3 => (hg.block k (Nat.lt_of_lt_of_le hk h.bel.size) (fun e => h3 (Option.some.inj e))).trans (h.keep k hk h1 h2 h3)⟩
theorem Still.below {a w : World} {B g m base : Nat} (h : Still a w B g m) (hb : base ≤ a.heap.size) (h1 : base ≤ B) (h2 : base ≤ g) (h3 : base ≤ m) : Below base a w :=
  ⟨h.bel.os, h.bel.tape, h.bel.output, h.bel.size, fun k hk => h.keep k (by omega) (by omega) (by omega) (by omega)⟩
theorem Box5.still {a w : World} {B g m C : Nat} {t : TypeId} {i : Ins} (h : Box5 a C t i) (hs : Still a w B g m) (h1 : C ≠ B) (h2 : C ≠ g) (h3 : C ≠ m) : Box5 w C t i := (hs.keep C h.lt h1 h2 h3).trans h
theorem box5_map {w : World} {C m n : Nat} {t k : TypeId} {i : Ins} {R : Value → Option (DataW Unit × List MemPlace)} {D : DataW Unit} (h : Box5 w C t i) (hm : w.ownsMap Try.prog k R m n D) : C ≠ m := by
  intro e
  subst e
  obtain ⟨es, clock, hh, _⟩ := hm
  rw [show w.heap[C]? = _ from h] at hh
  simp at hh
theorem cells_type {w : World} {b : Nat} {c1 c2 : Array Value} {t1 t2 : TypeId} {f1 f2 : Nat × Nat} (h1 : w.heap[b]? = some (.cells c1 t1 f1)) (h2 : w.heap[b]? = some (.cells c2 t2 f2)) : t1 = t2 := by
  rw [h1] at h2
  simp only [Option.some.injEq, Obj.cells.injEq] at h2
  exact h2.2.1
theorem BookAt.ins_ne {w : World} {base B g m n C : Nat} {D : DataW Unit} {s : ShS} {i : Ins} (h : BookAt w base B g m n D s) (hi : Box5 w C 40 i) : C ≠ B ∧ C ≠ g ∧ C ≠ m :=
  ⟨fun e => absurd (cells_type (e ▸ hi : w.heap[B]? = _) h.box) (by decide), fun e => absurd (cells_type (e ▸ hi : w.heap[g]? = _) h.row) (by decide), box5_map hi h.map⟩
theorem BookAt.still_ins {w w' : World} {base B g m n C : Nat} {D : DataW Unit} {s : ShS} {i : Ins} (h : BookAt w base B g m n D s) (hi : Box5 w C 40 i) (hs : Still w w' B g m) : Box5 w' C 40 i :=
  hi.still hs (h.ins_ne hi).1 (h.ins_ne hi).2.1 (h.ins_ne hi).2.2
theorem BookAt.still_own {w w' : World} {base base' B g m n : Nat} {D : DataW Unit} {s : ShS} {v : Value} {l : List Ins} (h : BookAt w base B g m n D s) (ho : OwnC w base' v l) (hs : Still w w' B g m) : OwnC w' base' v l := by
  refine ⟨ho.1, ?_⟩
  rcases ho.2 with h0 | ⟨g', cap, cur, rfl, hg, hh, r⟩
  · exact .inl h0
  · refine .inr ⟨g', cap, cur, rfl, hg, ?_, r⟩
    obtain ⟨es, clock, hm, _⟩ := h.map
    refine (hs.keep g' (Array.getElem?_eq_some_iff.1 hh).1 (fun e => ?_) (fun e => ?_) (fun e => ?_)).trans hh
    · exact absurd (cells_type (e ▸ hh : w.heap[B]? = _) h.box) (by decide)
    · exact absurd (cells_type (e ▸ hh : w.heap[g]? = _) h.row) (by decide)
    · subst e; rw [hh] at hm; simp at hm

theorem map_set_ne {w : World} {k : TypeId} {R : Value → Option (DataW Unit × List MemPlace)} {b n : Nat} {D : DataW Unit} (h : w.ownsMap Try.prog k R b n D) {C o : Nat} (hne : C ≠ b) (c : Value) : (w.setCell ⟨C, o, none⟩ c).ownsMap Try.prog k R b n D := by
  obtain ⟨es, clock, hh, F, hs, hD⟩ := h
  refine ⟨es, clock, ?_, F, hs, hD⟩
  show (w.heap.modify C _)[b]? = _
  rw [Array.getElem?_modify, if_neg hne]; exact hh
theorem BookAt.setOther {w : World} {base B g m n C o : Nat} {D : DataW Unit} {s : ShS} (h : BookAt w base B g m n D s) (h1 : C ≠ B) (h2 : C ≠ g) (h3 : C ≠ m) (c : Value) : BookAt (w.setCell ⟨C, o, none⟩ c) base B g m n D s :=
  ⟨h.box.other h1 c, h.row.other h2 o c, map_set_ne h.map h3 c, h.keys, h.ge⟩
theorem BookAt.ne_map {w : World} {base B g m n : Nat} {D : DataW Unit} {s : ShS} (h : BookAt w base B g m n D s) : B ≠ m ∧ g ≠ m := by
  obtain ⟨es, clock, hm, _⟩ := h.map
  refine ⟨fun e => ?_, fun e => ?_⟩
  · subst e
    rw [show w.heap[B]? = _ from h.box] at hm
    simp at hm
  · subst e
    rw [show w.heap[g]? = _ from h.row] at hm
    simp at hm
theorem BookAt.new {w w' : World} {base B g m n : Nat} {D : DataW Unit} {s : ShS} (h : BookAt w base B g m n D s) {k : K4} {kl : Lit} (hk : keyL k kl) (hl : look s.keys k = none) (f : Int) (hg : w.grownBy w' (some m)) (hown : w'.ownsMap Try.prog 102 entR m (n + 1) (D.put kl (entD s.next f))) :
    BookAt (w'.setCell ⟨B, 2, none⟩ (.int .i64 (s.next + 1))) base B g m (n + 1) (D.put kl (entD s.next f)) ⟨s.held, s.keys ++ [(k, s.next, f)], s.next + 1⟩ := by
  have hb : Box3 w' B _ _ _ _ := (hg.block B h.box.lt (fun e => h.ne_map.1 (Option.some.inj e))).trans h.box
  have hr : IntRow w' g s.held := (hg.block g h.row.lt (fun e => h.ne_map.2 (Option.some.inj e))).trans h.row
  exact ⟨hb.set2 _, hr.other h.ne _ _, map_set_ne hown h.ne_map.1 _, h.keys.new hk hl h.map.isMap (s.next, f), h.ge⟩
theorem Box2.putS {W : World} {B : Nat} {t : TypeId} {x y : Value} (h : Box2 W B t x y) (x' y' : Value) : Box2 ((W.setCell ⟨B, 0, none⟩ x').setCell ⟨B, 1, none⟩ y') B t x' y' := (h.set0 x').set1 y'
theorem Box2.otherS {W : World} {B C : Nat} {t : TypeId} {x y : Value} (h : Box2 W B t x y) (hne : C ≠ B) (x' y' : Value) : Box2 ((W.setCell ⟨C, 0, none⟩ x').setCell ⟨C, 1, none⟩ y') B t x y := (h.set_ne hne _).set_ne hne _
theorem info_ent : (Try.prog.info? 60).map (·.size) = some 2 := by kernel_rfl
/-- an entry is handed back -/
theorem ret_ent {fn : Func} {R : Ending → World → Prop} {a : Act} {w : World} {p : Tmp} (h : fn.results = #[.cell p 60]) (g : Nat) (x y : Value)
    (hp : a.tmps.getD p undef = .pointer (some ⟨g, 0, none⟩)) (hg : Box2 w g 60 x y) (hd : a.defers = []) (hR : R (.returned (.agg #[x, y])) w) : bodyPost Try.prog fn R .ret a w := by
  refine bodyPost_ret ?_ hd hR
  have hp' : a.tmps[p]?.getD undef = .pointer (some ⟨g, 0, none⟩) := by simpa using hp
  simp [results, h, hp', asAddr, run_loadVar_row w g 60 60 #[x, y] (0, 0) _ hg Try.underlying60 rfl info_ent]

theorem RNE {w : World} {I R B g m : Nat} (ZI : Hid (I = w.heap.size)) (ZR : Hid (R = I + 1)) (LT : Hid (B < w.heap.size ∧ g < w.heap.size ∧ m < w.heap.size)) : R ≠ B ∧ R ≠ g ∧ R ≠ m := by
  have := ZI.out
  have := ZR.out
  have := LT.out
  omega
def ReckR (w w' : World) (e : Ending) (base B g m n : Nat) (s : ShS) (k : Nat) (i : Ins) : Prop :=
  e = .returned (.agg #[.int .i64 (s.val k i).1, .int .i64 (s.val k i).2]) ∧ (∃ D' n', n' ≤ n + 1 ∧ BookAt w' base B g m n' D' (s.aft k i)) ∧ Still w w' B g m
set_option maxRecDepth 100000 in
set_option maxHeartbeats 4000000 in
theorem reckon_any (p : Pg) (k : Nat) (i : Ins) (w : World) (base B g m n : Nat) (D : DataW Unit) (s : ShS) (h : BookAt w base B g m n D s) (hs : ShOk p k s) (hp : rightB p = true) (hi : mayB i p.regs = true) (hk : k ≤ 16384) (hn : n ≤ 16384) :
    Calls Try.prog 41 #[.pointer (some ⟨B, 0, none⟩), .int .i64 k, .agg #[.int .i64 i.op, .int .i64 i.to, .int .i64 i.a, .int .i64 i.b, .int .i64 i.c]] w fun e w' => ReckR w w' e base B g m n s k i := by
  have HK := hide h
  obtain ⟨x, hax⟩ := Int.eq_ofNat_of_zero_le ((may_iff _ _).1 hi).2.2.1.1
  obtain ⟨y, hby⟩ := Int.eq_ofNat_of_zero_le ((may_iff _ _).1 hi).2.2.2.1.1
  have hx : x < s.held.length := by have := ((may_iff _ _).1 hi).2.2.1; rw [hs.len]; omega
  have hy : y < s.held.length := by have := ((may_iff _ _).1 hi).2.2.2.1; rw [hs.len]; omega
  have HX := hide hx
  have HY := hide hy
  have HV : Hid (0 ≤ ot s.held x ∧ ot s.held x < 100000 ∧ 0 ≤ ot s.held y ∧ ot s.held y < 100000 ∧ 0 ≤ s.next ∧ s.next < 100000) := hide (by
    have h1 := hs.val x hx
    have h2 := hs.val y hy
    have h3 := hs.nxt
    obtain ⟨p1, p2, p3, _⟩ := right_parts hp
    omega)
  have HC : Hid (1 ≤ i.op ∧ i.op ≤ 8 ∧ -512 ≤ i.c ∧ i.c ≤ 512) := hide (by have := (may_iff _ _).1 hi; omega)
  have HN := hide hn
  have LT := hide (And.intro h.box.lt (And.intro h.row.lt h.map.lt))
  clear h hs hp hi hn hx hy
  obtain ⟨op, to, a, b, c⟩ := i
  dsimp only at hax hby HC ⊢
  subst hax hby
  unfold ReckR
  go_enter Try.func41, Try.ntmps41
  go_upto_region 1 with fail
  have b1 := below_alloc w (.cells #[.int .i64 op, .int .i64 to, .int .i64 (x : Int), .int .i64 (y : Int), .int .i64 c] 40)
  have b2 := below_alloc (w.alloc (.cells #[.int .i64 op, .int .i64 to, .int .i64 (x : Int), .int .i64 (y : Int), .int .i64 c] 40)) (.cells #[.int .i64 0, .int .i64 0] 60)
  have IX := hide ((Box5.new w 40 ⟨op, to, x, y, c⟩).step b2)
  have RX := hide (Box2.new (w.alloc (.cells #[.int .i64 op, .int .i64 to, .int .i64 (x : Int), .int .i64 (y : Int), .int .i64 c] 40)) 60 (.int .i64 0) (.int .i64 0))
  rw [World.size_alloc] at RX
  have HB := hide (b1.trans (b2.mono b1.size))
  replace HK := hide ((HK.out.below b1).below b2)
  clear b1 b2
  generalize (w.alloc (.cells #[.int .i64 op, .int .i64 to, .int .i64 (x : Int), .int .i64 (y : Int), .int .i64 c] 40)).alloc (.cells #[.int .i64 0, .int .i64 0] 60) = w1 at *
  obtain ⟨I, hI⟩ : ∃ I, I = w.heap.size := ⟨_, rfl⟩
  have ZI := hide hI
  rw [← hI] at IX RX ⊢
  clear hI
  obtain ⟨R, hR⟩ : ∃ R, R = I + 1 := ⟨_, rfl⟩
  have ZR := hide hR
  rw [← hR] at RX ⊢
  clear hR
  by_cases h1 : op = 1
  · subst h1
    have k0 := IX.out.cells.cell0
    have k1 := IX.out.cells.cell1
    have k2 := IX.out.cells.cell2
    have k3 := IX.out.cells.cell3
    have k4 := IX.out.cells.cell4
    simp only [Nat.zero_add] at k1 k2 k3 k4
    have z0 := RX.out.cell0
    have z1 := RX.out.cell1
    have f0 := RX.out.free 0
    have f1 := RX.out.free 1
    have c0 := HK.out.box.cell0
    have r1 := HK.out.row.cell HX.out
    have hx := HX.out
    have LI := IX.out.lt
    have LR := RX.out.lt
    have LB := HK.out.box.lt
    have LG := HK.out.row.lt
    have NI := (HK.out.ins_ne IX.out)
    have NR : R ≠ I := by have := ZR.out; omega
    go_upto_region 2 with fail
    go_region
    replace RX := hide (Box2.drew (RX.out.putS (.int .i64 (ot s.held x)) (.int .i64 k)))
    replace HK := hide (((HK.out.setOther (C := R) (o := 0) (RNE ZI ZR LT).1 (RNE ZI ZR LT).2.1 (RNE ZI ZR LT).2.2 (.int .i64 (ot s.held x))).setOther (C := R) (o := 1) (RNE ZI ZR LT).1 (RNE ZI ZR LT).2.1 (RNE ZI ZR LT).2.2 (.int .i64 k)).drew)
    have ST := hide ((((Still.of_below (B := B) (g := g) (m := m) HB.out).setNew (b := R) (by have := ZI.out; have := ZR.out; omega) 0 (.int .i64 (ot s.held x))).setNew (b := R) (by have := ZI.out; have := ZR.out; omega) 1 (.int .i64 k)).drew)
    clear k0 k1 k2 k3 k4 z0 z1 f0 f1 c0 r1 hx LI LR LB LG NI NR
    generalize ((w1.setCell ⟨R, 0, none⟩ (.int .i64 (ot s.held x))).setCell ⟨R, 1, none⟩ (.int .i64 k)).drew = w2 at *
    go_wp2
    refine ret_ent rfl R _ _ rfl RX.out rfl ?_
    refine ⟨?_, ⟨D, n, Nat.le_succ _, ?_⟩, ST.out⟩
    · unfold ShS.val; rw [if_pos rfl]; rfl
    · unfold ShS.aft; rw [if_pos (.inl rfl)]; exact HK.out
  · have H1 := hide h1
    have k0 := IX.out.cells.cell0
    have k1 := IX.out.cells.cell1
    have k2 := IX.out.cells.cell2
    have k3 := IX.out.cells.cell3
    have k4 := IX.out.cells.cell4
    simp only [Nat.zero_add] at k1 k2 k3 k4
    go_wp2_with fail
    refine (keyOf_any ⟨op, to, x, y, c⟩ _ base B g m n D s HK.out ⟨Int.natCast_nonneg _, by have := HX.out; dsimp only; omega⟩ ⟨Int.natCast_nonneg _, by have := HY.out; dsimp only; omega⟩).mono ?_
    rintro e w2 ⟨rfl, hb⟩
    replace HK := hide (HK.out.below hb)
    replace IX := hide (IX.out.step hb)
    replace RX := hide (RX.out.step hb)
    replace HB := hide (HB.out.trans (hb.mono HB.out.size))
    clear hb k0 k1 k2 k3 k4
    generalize hky : keyI s.held (⟨op, to, x, y, c⟩ : Ins) = ky
    have KY := hide hky
    clear hky
    obtain ⟨a1, a2, a3, a4⟩ := ky
    have WFS : Hid ((0 ≤ a1 ∧ a1 ≤ 8) ∧ (0 ≤ a2 ∧ a2 < 100000) ∧ (0 ≤ a3 ∧ a3 < 100000) ∧ (-512 ≤ a4 ∧ a4 ≤ 512)) := hide (by
      have e0 := KY.out
      unfold keyI at e0
      simp only [Prod.mk.injEq, Int.toNat_natCast] at e0
      obtain ⟨f1, f2, f3, f4⟩ := e0
      have hv := HV.out
      have hc := HC.out
      refine ⟨by omega, ?_, ?_, by omega⟩
      · rw [← f2]; split <;> omega
      · rw [← f3]; (repeat' split) <;> omega)
    have WF1 : (Lit.int .i64 a1).wf = true := WalkArith.wf_i64 (by have := WFS.out; omega)
    have WF2 : (Lit.int .i64 a2).wf = true := WalkArith.wf_i64 (by have := WFS.out; omega)
    have WF3 : (Lit.int .i64 a3).wf = true := WalkArith.wf_i64 (by have := WFS.out; omega)
    have WF4 : (Lit.int .i64 a4).wf = true := WalkArith.wf_i64 (by have := WFS.out; omega)
    unfold kK
    dsimp only
    go_upto_region 4 with fail
    have hb := below_alloc w2 (.cells #[.int .i64 a1, .int .i64 a2, .int .i64 a3, .int .i64 a4] 102)
    have NX := hide (Box4.new w2 102 (.int .i64 a1) (.int .i64 a2) (.int .i64 a3) (.int .i64 a4))
    replace HK := hide (HK.out.below hb)
    replace IX := hide (IX.out.step hb)
    replace RX := hide (RX.out.step hb)
    replace HB := hide (HB.out.trans (hb.mono HB.out.size))
    clear hb
    generalize w2.alloc (.cells #[.int .i64 a1, .int .i64 a2, .int .i64 a3, .int .i64 a4] 102) = w3 at *
    generalize w2.heap.size = K at *
    have LN := NX.out.lt
    have LR := RX.out.lt
    have LB := HK.out.box.lt
    have LM := HK.out.map.lt
    have n0 := NX.out.cell0
    have n1 := NX.out.cell1
    have n2 := NX.out.cell2
    have n3 := NX.out.cell3
    have c1 := HK.out.box.cell1
    obtain ⟨kl, hkl⟩ : ∃ kl, keyL (a1, a2, a3, a4) kl := Try.shKey _ WF1 WF2 WF3 WF4
    have KL := hide hkl
    clear hkl
    cases hlk : look s.keys (a1, a2, a3, a4) with
    | some e =>
      obtain ⟨e1, e2⟩ := e
      have LK := hide hlk
      have lk := fun w' h => look_yes (w := w') (b := m) (n := n) (D := D) h HK.out.keys KL.out hlk
      clear hlk
      have lk1 : (Instr.lookup 84 (.map (some m)) (.agg #[.int .i64 a1, .int .i64 a2, .int .i64 a3, .int .i64 a4]) true).run Try.prog w3.drew = .ok (.tuple #[.agg #[.int .i64 e1, .int .i64 e2], .bool true]) w3.drew := lk _ HK.out.map.drew
      have lk2 : ∀ o, (Instr.lookup 84 (.map (some m)) (.agg #[.int .i64 a1, .int .i64 a2, .int .i64 a3, .int .i64 a4]) true).run Try.prog (w3.alloc o) = .ok (.tuple #[.agg #[.int .i64 e1, .int .i64 e2], .bool true]) (w3.alloc o) := fun o => lk _ (HK.out.map.alloc o)
      have lk3 : ∀ o, (Instr.lookup 84 (.map (some m)) (.agg #[.int .i64 a1, .int .i64 a2, .int .i64 a3, .int .i64 a4]) true).run Try.prog (w3.alloc o).drew = .ok (.tuple #[.agg #[.int .i64 e1, .int .i64 e2], .bool true]) (w3.alloc o).drew := fun o => lk _ (HK.out.map.alloc o).drew
      have lk4 : ∀ o, (Instr.lookup 84 (.map (some m)) (.agg #[.int .i64 a1, .int .i64 a2, .int .i64 a3, .int .i64 a4]) true).run Try.prog (w3.drew.alloc o) = .ok (.tuple #[.agg #[.int .i64 e1, .int .i64 e2], .bool true]) (w3.drew.alloc o) := fun o => lk _ (HK.out.map.drew.alloc o)
      clear lk
      have HB3 := hide HB.out.size
      have HR3 := hide RX.out.lt
      have HK3 := hide NX.out.lt
      go_region
      have hb := (below_alloc w3 (.cells #[.int .i64 e1, .int .i64 e2] 60)).drew
      have EX := hide (Box2.drew (Box2.new w3 60 (.int .i64 e1) (.int .i64 e2)))
      replace HK := hide (HK.out.below hb)
      replace IX := hide (IX.out.step hb)
      replace RX := hide (RX.out.step hb)
      replace NX := hide (NX.out.step hb)
      replace HB := hide (HB.out.trans (hb.mono HB.out.size))
      clear hb lk1 lk2 lk3 lk4 n0 n1 n2 n3 c1 LN LR LB LM
      obtain ⟨E, hE⟩ : ∃ E, E = w3.heap.size := ⟨_, rfl⟩
      rw [← hE] at EX ⊢
      have GE := hide (show w.heap.size ≤ E by have := HB3.out; omega)
      have ER := hide (show R < E by have := HR3.out; omega)
      have EK := hide (show K < E by have := HK3.out; omega)
      generalize (w3.alloc (.cells #[.int .i64 e1, .int .i64 e2] 60)).drew = w4 at *
      clear hE
      have e0 := EX.out.cell0
      have e1' := EX.out.cell1
      have ef0 := EX.out.free 0
      have ef1 := EX.out.free 1
      have z0 := RX.out.cell0
      have z1 := RX.out.cell1
      have f0 := RX.out.free 0
      have f1 := RX.out.free 1
      go_wp2
      refine ret_ent rfl R _ _ rfl (RX.out.putS _ _) rfl ?_
      have hv : ShS.val s k ⟨op, to, x, y, c⟩ = (e1, e2) := by unfold ShS.val; rw [if_neg H1.out, KY.out, LK.out]; rfl
      rw [hv]
      refine ⟨rfl, ⟨D, n, Nat.le_succ _, ?_⟩, ?_⟩
      · unfold ShS.aft
        rw [if_pos (.inr (by rw [KY.out, LK.out]; rfl))]
        exact (HK.out.setOther (C := R) (o := 0) (RNE ZI ZR LT).1 (RNE ZI ZR LT).2.1 (RNE ZI ZR LT).2.2 _).setOther (C := R) (o := 1) (RNE ZI ZR LT).1 (RNE ZI ZR LT).2.1 (RNE ZI ZR LT).2.2 _
      · exact ((Still.of_below HB.out).setNew (b := R) (by have := ZI.out; have := ZR.out; omega) 0 _).setNew (b := R) (by have := ZI.out; have := ZR.out; omega) 1 _
    | none =>
      have LK := hide hlk
      obtain ⟨x1, x2, lk⟩ := look_no HK.out.map HK.out.keys KL.out hlk
      clear hlk
      have lk1 : (Instr.lookup 84 (.map (some m)) (.agg #[.int .i64 a1, .int .i64 a2, .int .i64 a3, .int .i64 a4]) true).run Try.prog w3.drew = .ok (.tuple #[.agg #[.int .i64 x1, .int .i64 x2], .bool false]) w3.drew := lk _ HK.out.map.drew
      have lk2 : ∀ o, (Instr.lookup 84 (.map (some m)) (.agg #[.int .i64 a1, .int .i64 a2, .int .i64 a3, .int .i64 a4]) true).run Try.prog (w3.alloc o) = .ok (.tuple #[.agg #[.int .i64 x1, .int .i64 x2], .bool false]) (w3.alloc o) := fun o => lk _ (HK.out.map.alloc o)
      have lk3 : ∀ o, (Instr.lookup 84 (.map (some m)) (.agg #[.int .i64 a1, .int .i64 a2, .int .i64 a3, .int .i64 a4]) true).run Try.prog (w3.alloc o).drew = .ok (.tuple #[.agg #[.int .i64 x1, .int .i64 x2], .bool false]) (w3.alloc o).drew := fun o => lk _ (HK.out.map.alloc o).drew
      have lk4 : ∀ o, (Instr.lookup 84 (.map (some m)) (.agg #[.int .i64 a1, .int .i64 a2, .int .i64 a3, .int .i64 a4]) true).run Try.prog (w3.drew.alloc o) = .ok (.tuple #[.agg #[.int .i64 x1, .int .i64 x2], .bool false]) (w3.drew.alloc o) := fun o => lk _ (HK.out.map.drew.alloc o)
      clear lk
      have HB3 := hide HB.out.size
      have HR3 := hide RX.out.lt
      have HK3 := hide NX.out.lt
      go_region
      have hb := (below_alloc w3 (.cells #[.int .i64 x1, .int .i64 x2] 60)).drew
      have EX := hide (Box2.drew (Box2.new w3 60 (.int .i64 x1) (.int .i64 x2)))
      replace HK := hide (HK.out.below hb)
      replace IX := hide (IX.out.step hb)
      replace RX := hide (RX.out.step hb)
      replace NX := hide (NX.out.step hb)
      replace HB := hide (HB.out.trans (hb.mono HB.out.size))
      clear hb lk1 lk2 lk3 lk4 n0 n1 n2 n3 c1 LN LR LB LM
      obtain ⟨E, hE⟩ : ∃ E, E = w3.heap.size := ⟨_, rfl⟩
      rw [← hE] at EX ⊢
      have GE := hide (show w.heap.size ≤ E by have := HB3.out; omega)
      have ER := hide (show R < E by have := HR3.out; omega)
      have EK := hide (show K < E by have := HK3.out; omega)
      generalize (w3.alloc (.cells #[.int .i64 x1, .int .i64 x2] 60)).drew = w4 at *
      clear hE
      have e0 := EX.out.cell0
      have e1' := EX.out.cell1
      have ef0 := EX.out.free 0
      have ef1 := EX.out.free 1
      have c2 := HK.out.box.cell2
      go_upto_region 7 with fail
      replace EX := hide (EX.out.putS (.int .i64 s.next) (.int .i64 k))
      replace HK := hide ((HK.out.setOther (C := E) (o := 0) (show E ≠ B by have := GE.out; have := LT.out; omega) (show E ≠ g by have := GE.out; have := LT.out; omega) (show E ≠ m by have := GE.out; have := LT.out; omega) (.int .i64 s.next)).setOther (C := E) (o := 1) (show E ≠ B by have := GE.out; have := LT.out; omega) (show E ≠ g by have := GE.out; have := LT.out; omega) (show E ≠ m by have := GE.out; have := LT.out; omega) (.int .i64 k))
      have ST := hide (((Still.of_below (B := B) (g := g) (m := m) HB.out).setNew (b := E) GE.out 0 (.int .i64 s.next)).setNew (b := E) GE.out 1 (.int .i64 k))
      replace RX := hide (RX.out.otherS (C := E) (by have := ER.out; omega) (.int .i64 s.next) (.int .i64 k))
      replace NX := hide ((NX.out.set_ne (C := E) (o := 0) (by have := EK.out; omega) (.int .i64 s.next)).set_ne (C := E) (o := 1) (by have := EK.out; omega) (.int .i64 k))
      clear e0 e1' ef0 ef1 c2 IX HB
      generalize (w4.setCell ⟨E, 0, none⟩ (.int .i64 s.next)).setCell ⟨E, 1, none⟩ (.int .i64 k) = w5 at *
      obtain ⟨w6, hrun, hown, hgrow⟩ := World.ownsMap.update (w := w5.drew) HK.out.map.drew Try.shKeyed Try.underlying84 (by have := HN.out; unfold maxLen; omega) (key := (.agg #[.int .i64 a1, .int .i64 a2, .int .i64 a3, .int .i64 a4])) (val := (.agg #[.int .i64 s.next, .int .i64 k])) KL.out (entR_mk s.next k)
      have n0 := NX.out.cell0
      have n1 := NX.out.cell1
      have n2 := NX.out.cell2
      have n3 := NX.out.cell3
      have c1 := HK.out.box.cell1
      have e0 := EX.out.cell0
      have e1' := EX.out.cell1
      go_region
      have HK2 := hide (HK.out.drew.new KL.out LK.out (k : Int) hgrow hown)
      have EX2 : Hid (Box2 w6 E 60 (.int .i64 s.next) (.int .i64 k)) := hide ((hgrow.block E EX.out.lt (fun e => absurd (Option.some.inj e) (show E ≠ m by have := GE.out; have := LT.out; omega))).trans EX.out)
      have RX2 : Hid (Box2 w6 R 60 (.int .i64 0) (.int .i64 0)) := hide ((hgrow.block R RX.out.lt (fun e => absurd (Option.some.inj e) (RNE ZI ZR LT).2.2)).trans RX.out)
      have BX2 : Hid (Box3 w6 B 86 (.slice (some ⟨g, 0, none⟩) s.held.length s.held.length) (.map (some m)) (.int .i64 s.next)) := hide ((hgrow.block B HK.out.box.lt (fun e => HK.out.ne_map.1 (Option.some.inj e))).trans HK.out.box)
      replace ST := hide (ST.out.drew.grown hgrow)
      clear hrun hown hgrow n0 n1 n2 n3 c1 e0 e1' EX RX HK NX
      have c2 := BX2.out.cell2
      have cf := BX2.out.free 2
      have e0 := EX2.out.cell0
      have e1' := EX2.out.cell1
      have z0 := RX2.out.cell0
      have z1 := RX2.out.cell1
      have f0 := RX2.out.free 0
      have f1 := RX2.out.free 1
      have NEB : E ≠ B := by have := GE.out; have := LT.out; omega
      have NRB : R ≠ B := (RNE ZI ZR LT).1
      have hnx : s.next < 9223372036854775807 := by have := HV.out; omega
      have hnx0 : 0 ≤ s.next := by have := HV.out; omega
      go_upto_region 9 with fail
      replace EX2 := hide (EX2.out.set_ne (C := B) (o := 2) (Ne.symm NEB) (.int .i64 (s.next + 1)))
      replace RX2 := hide (RX2.out.set_ne (C := B) (o := 2) (Ne.symm NRB) (.int .i64 (s.next + 1)))
      replace ST := hide (ST.out.setB 2 (.int .i64 (s.next + 1)))
      clear c2 cf e0 e1' z0 z1 f0 f1 BX2
      generalize w6.setCell ⟨B, 2, none⟩ (.int .i64 (s.next + 1)) = w7 at *
      have e0 := EX2.out.cell0
      have e1' := EX2.out.cell1
      have z0 := RX2.out.cell0
      have z1 := RX2.out.cell1
      have f0 := RX2.out.free 0
      have f1 := RX2.out.free 1
      go_wp2
      refine ret_ent rfl R _ _ rfl (RX2.out.putS _ _) rfl ?_
      have hv : ShS.val s k ⟨op, to, x, y, c⟩ = (s.next, (k : Int)) := by unfold ShS.val; rw [if_neg H1.out, KY.out, LK.out]; rfl
      rw [hv]
      refine ⟨rfl, ⟨D.put kl (entD s.next k), n + 1, Nat.le_refl _, ?_⟩, ?_⟩
      · unfold ShS.aft
        rw [if_neg (by rw [KY.out, LK.out]; simp [H1.out]), KY.out]
        exact (HK2.out.setOther (C := R) (o := 0) (RNE ZI ZR LT).1 (RNE ZI ZR LT).2.1 (RNE ZI ZR LT).2.2 _).setOther (C := R) (o := 1) (RNE ZI ZR LT).1 (RNE ZI ZR LT).2.1 (RNE ZI ZR LT).2.2 _
      · exact (ST.out.setNew (b := R) (by have := ZI.out; have := ZR.out; omega) 0 _).setNew (b := R) (by have := ZI.out; have := ZR.out; omega) 1 _
end Go.Proofs.Ytclopelniopjkaa
