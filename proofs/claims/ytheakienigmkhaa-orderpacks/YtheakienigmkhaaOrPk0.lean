/- What stands while the document's Pack (swageref16) reckons. -/
import Derived.Test.YtheakienigmkhaaOrPl
import Derived.Test.YtheakienigmkhaaOrPm
import Derived.Test.YtheakienigmkhaaPgRaise
import Derived.Test.YtheakienigmkhaaPgJoin1
namespace Go.Proofs.Ytheakienigmkhaa
open Go.RowKit

theorem cellsRow {W : World} {b base n size : Nat} {v : Value} {e t : TypeId} {cs : Array Value} {f : Nat × Nat} {xs : List Value} (h : W.ownsRow base e size v n xs) (hb : W.heap[b]? = some (.cells cs t f)) (hne : e ≠ t) : v.ownBlock ≠ some b := by
  rcases h.2 with ⟨rfl, _⟩ | ⟨g, cap, cur, rfl, _, hh, _⟩
  · simp [Value.ownBlock]
  · intro e1
    have e1 : g = b := by simpa [Value.ownBlock] using e1
    subst e1
    rw [hb] at hh
    simp only [Option.some.injEq, Obj.cells.injEq] at hh
    exact hne hh.2.1.symm
theorem rowsApart {W : World} {base base' n m size size' : Nat} {v u : Value} {e t : TypeId} {xs ys : List Value} (h : W.ownsRow base e size v n xs) (k : W.ownsRow base' t size' u m ys) (hne : e ≠ t) : v.ownBlock = none ∨ v.ownBlock ≠ u.ownBlock := by
  rcases h.2 with ⟨rfl, _⟩ | ⟨g, cap, cur, rfl, _, hh, _⟩
  · exact .inl rfl
  · right
    rcases k.2 with ⟨rfl, _⟩ | ⟨g', cap', cur', rfl, _, hh', _⟩
    · simp [Value.ownBlock]
    · intro e1
      have e1 : g = g' := by simpa [Value.ownBlock] using e1
      subst e1
      rw [hh] at hh'
      simp only [Option.some.injEq, Obj.cells.injEq] at hh'
      exact hne hh'.2.1
theorem own_put4 {W : World} {base R n size : Nat} {e : TypeId} {v x y z u : Value} {xs : List Value} (h : W.ownsRow base e size v n xs) (hb : Box4 W R 25 x y z u) (a b c d : Value) (hne : e ≠ 25 := by decide) : ((((W.setCell ⟨R, 0, none⟩ a).setCell ⟨R, 1, none⟩ b).setCell ⟨R, 2, none⟩ c).setCell ⟨R, 3, none⟩ d).ownsRow base e size v n xs :=
  have n1 := cellsRow h hb hne
  own_set_ne (own_set_ne (own_set_ne (own_set_ne h n1 _) n1 _) n1 _) n1 _
structure PkS (w0 : World) (B R O : Nat) (p : Pg) (pc po nv : Value) (m : Int) (vc vo vl : Value) (cds : List Ins) (outs : List Int) (L : List (Int × Int)) (w : World) : Prop where
  bel : Below w0.heap.size w0 w
  px : Box4 w B 25 (.int .i64 p.ins) (.int .i64 p.regs) pc po
  rx : Box4 w R 25 (.int .i64 0) (.int .i64 0) (.slice none 0 0) (.slice none 0 0)
  ox : Box4 w O 25 (.int .i64 p.ins) (.int .i64 m) vc vo
  oc : OwnC w w0.heap.size vc cds
  oo : OwnO w w0.heap.size vo outs
  nb : OwnB w w0.heap.size nv (ndL p)
  pl : OwnPl w w0.heap.size vl L
  ne : B ≠ O ∧ R ≠ O ∧ w0.heap.size ≤ O ∧ w0.heap.size ≤ R
section
variable {w0 w w' : World} {B R O : Nat} {p : Pg} {pc po nv : Value} {m : Int} {vc vo vl : Value} {cds : List Ins} {outs : List Int} {L : List (Int × Int)}
theorem PkS.step (h : PkS w0 B R O p pc po nv m vc vo vl cds outs L w) (hb : Below w.heap.size w w') : PkS w0 B R O p pc po nv m vc vo vl cds outs L w' :=
  ⟨h.bel.trans (hb.mono h.bel.size), h.px.step hb, h.rx.step hb, h.ox.step hb, own_below h.oc hb, own_below h.oo hb, own_below h.nb hb, own_below h.pl hb, h.ne⟩
theorem PkS.drew (h : PkS w0 B R O p pc po nv m vc vo vl cds outs L w) : PkS w0 B R O p pc po nv m vc vo vl cds outs L w.drew := h.step (Below.refl _ _).drew
theorem PkS.withL {vl' : Value} {L' : List (Int × Int)} {b : Nat} (h : PkS w0 B R O p pc po nv m vc vo vl cds outs L w) (hl : OwnPl w b vl' L') (hb : w0.heap.size ≤ b) : PkS w0 B R O p pc po nv m vc vo vl' cds outs L' w :=
  ⟨h.bel, h.px, h.rx, h.ox, h.oc, h.oo, h.nb, own_base hl hb, h.ne⟩
theorem PkS.appL {vl' : Value} {L' : List (Int × Int)} (h : PkS w0 B R O p pc po nv m vc vo vl cds outs L w) (hg : w.grownBy w' vl.ownBlock) (hl : OwnPl w' w0.heap.size vl' L') : PkS w0 B R O p pc po nv m vc vo vl' cds outs L' w' :=
  ⟨h.bel.grown hg h.bel.size (fun k hk => (World.ownsRow.lt h.pl k hk).1), (hg.block B h.px.lt (fun e => cellsRow h.pl h.px (by decide) e.symm)).trans h.px, (hg.block R h.rx.lt (fun e => cellsRow h.pl h.rx (by decide) e.symm)).trans h.rx, (hg.block O h.ox.lt (fun e => cellsRow h.pl h.ox (by decide) e.symm)).trans h.ox,
    World.ownsRow.kept h.oc hg (rowsApart h.oc h.pl (by decide)), World.ownsRow.kept h.oo hg (rowsApart h.oo h.pl (by decide)), World.ownsRow.kept h.nb hg (rowsApart h.nb h.pl (by decide)), hl, h.ne⟩
theorem PkS.setO {j : Nat} {c : Value} {m' : Int} {vc' vo' : Value} {cds' : List Ins} {outs' : List Int} (h : PkS w0 B R O p pc po nv m vc vo vl cds outs L w)
    (hx : Box4 (w.setCell ⟨O, j, none⟩ c) O 25 (.int .i64 p.ins) (.int .i64 m') vc' vo') (hc : OwnC w w0.heap.size vc' cds') (ho : OwnO w w0.heap.size vo' outs') : PkS w0 B R O p pc po nv m' vc' vo' vl cds' outs' L (w.setCell ⟨O, j, none⟩ c) :=
  ⟨h.bel.setCell (p := ⟨O, j, none⟩) h.ne.2.2.1 _, h.px.set_ne (fun e => h.ne.1 e.symm) _, h.rx.set_ne (fun e => h.ne.2.1 e.symm) _, hx,
    own_set_ne hc (cellsRow hc h.ox (by decide)) _, own_set_ne ho (cellsRow ho h.ox (by decide)) _, own_set_ne h.nb (cellsRow h.nb h.ox (by decide)) _, own_set_ne h.pl (cellsRow h.pl h.ox (by decide)) _, h.ne⟩
theorem PkS.setM (h : PkS w0 B R O p pc po nv m vc vo vl cds outs L w) (m' : Int) : PkS w0 B R O p pc po nv m' vc vo vl cds outs L (w.setCell ⟨O, 1, none⟩ (.int .i64 m')) :=
  h.setO (h.ox.set 1 _) h.oc h.oo
theorem PkS.growC (h : PkS w0 B R O p pc po nv m vc vo vl cds outs L w) (hg : w.grownBy w' vc.ownBlock) : Box4 w' O 25 (.int .i64 p.ins) (.int .i64 m) vc vo :=
  (hg.block O h.ox.lt (fun e => cellsRow h.oc h.ox (by decide) e.symm)).trans h.ox
theorem PkS.appC {v' : Value} {x' : List Ins} (h : PkS w0 B R O p pc po nv m vc vo vl cds outs L w) (hg : w.grownBy w' vc.ownBlock) (ho : OwnC w' w0.heap.size v' x') : PkS w0 B R O p pc po nv m v' vo vl x' outs L (w'.setCell ⟨O, 2, none⟩ v') := by
  have ox' := h.growC hg
  have h' : PkS w0 B R O p pc po nv m v' vo vl x' outs L w' → PkS w0 B R O p pc po nv m v' vo vl x' outs L w' := id
  have px' : Box4 w' B _ _ _ _ _ := (hg.block B h.px.lt (fun e => cellsRow h.oc h.px (by decide) e.symm)).trans h.px
  have rx' : Box4 w' R _ _ _ _ _ := (hg.block R h.rx.lt (fun e => cellsRow h.oc h.rx (by decide) e.symm)).trans h.rx
  have oo' := World.ownsRow.kept h.oo hg (rowsApart h.oo h.oc (by decide))
  have nb' := World.ownsRow.kept h.nb hg (rowsApart h.nb h.oc (by decide))
  have pl' := World.ownsRow.kept h.pl hg (rowsApart h.pl h.oc (by decide))
  exact ⟨(h.bel.grown hg h.bel.size (fun k hk => (World.ownsRow.lt h.oc k hk).1)).setCell (p := ⟨O, 2, none⟩) h.ne.2.2.1 _, px'.set_ne (fun e => h.ne.1 e.symm) _, rx'.set_ne (fun e => h.ne.2.1 e.symm) _, ox'.set2 _, own_set_ne ho (cellsRow ho ox' (by decide)) _, own_set_ne oo' (cellsRow oo' ox' (by decide)) _, own_set_ne nb' (cellsRow nb' ox' (by decide)) _, own_set_ne pl' (cellsRow pl' ox' (by decide)) _, h.ne⟩
theorem PkS.growO (h : PkS w0 B R O p pc po nv m vc vo vl cds outs L w) (hg : w.grownBy w' vo.ownBlock) : Box4 w' O 25 (.int .i64 p.ins) (.int .i64 m) vc vo :=
  (hg.block O h.ox.lt (fun e => cellsRow h.oo h.ox (by decide) e.symm)).trans h.ox
theorem PkS.appO {v' : Value} {x' : List Int} (h : PkS w0 B R O p pc po nv m vc vo vl cds outs L w) (hg : w.grownBy w' vo.ownBlock) (ho : OwnO w' w0.heap.size v' x') : PkS w0 B R O p pc po nv m vc v' vl cds x' L (w'.setCell ⟨O, 3, none⟩ v') := by
  have ox' := h.growO hg
  have px' : Box4 w' B _ _ _ _ _ := (hg.block B h.px.lt (fun e => cellsRow h.oo h.px (by decide) e.symm)).trans h.px
  have rx' : Box4 w' R _ _ _ _ _ := (hg.block R h.rx.lt (fun e => cellsRow h.oo h.rx (by decide) e.symm)).trans h.rx
  have oc' := World.ownsRow.kept h.oc hg (rowsApart h.oc h.oo (by decide))
  have nb' := World.ownsRow.kept h.nb hg (rowsApart h.nb h.oo (by decide))
  have pl' := World.ownsRow.kept h.pl hg (rowsApart h.pl h.oo (by decide))
  exact ⟨(h.bel.grown hg h.bel.size (fun k hk => (World.ownsRow.lt h.oo k hk).1)).setCell (p := ⟨O, 3, none⟩) h.ne.2.2.1 _, px'.set_ne (fun e => h.ne.1 e.symm) _, rx'.set_ne (fun e => h.ne.2.1 e.symm) _, ox'.set3 _, own_set_ne oc' (cellsRow oc' ox' (by decide)) _, own_set_ne ho (cellsRow ho ox' (by decide)) _, own_set_ne nb' (cellsRow nb' ox' (by decide)) _, own_set_ne pl' (cellsRow pl' ox' (by decide)) _, h.ne⟩
end
theorem box45_ne {W : World} {O X : Nat} {x y z u : Value} {i : Ins} (h : Box4 W O 25 x y z u) (k : Box5 W X 40 i) (e : O = X) : False := by
  subst e
  have h1 : W.heap[O]? = some (.cells #[x, y, z, u] 25 (0, 0)) := h
  have h2 : W.heap[O]? = some (.cells i.vals 40 (0, 0)) := k
  rw [h1] at h2
  simp only [Option.some.injEq, Obj.cells.injEq] at h2
  exact absurd h2.2.1 (by decide)
theorem PkS.setX {w0 w : World} {B R O : Nat} {p : Pg} {pc po nv : Value} {m : Int} {vc vo vl : Value} {cds : List Ins} {outs : List Int} {L : List (Int × Int)} {X j : Nat} {i : Ins} (h : PkS w0 B R O p pc po nv m vc vo vl cds outs L w)
    (hx : Box5 w X 40 i) (h1 : w0.heap.size ≤ X) (h2 : vc.ownBlock ≠ some X) (c : Value) : PkS w0 B R O p pc po nv m vc vo vl cds outs L (w.setCell ⟨X, j, none⟩ c) :=
  ⟨h.bel.setCell (p := ⟨X, j, none⟩) h1 _, h.px.set_ne (fun e => box45_ne h.px hx e.symm) _, h.rx.set_ne (fun e => box45_ne h.rx hx e.symm) _, h.ox.set_ne (fun e => box45_ne h.ox hx e.symm) _,
    own_set_ne h.oc h2 _, own_set_ne h.oo (cellsRow h.oo hx (by decide)) _, own_set_ne h.nb (cellsRow h.nb hx (by decide)) _, own_set_ne h.pl (cellsRow h.pl hx (by decide)) _, h.ne⟩
theorem Box5.put5 {W : World} {B : Nat} {t : TypeId} {i : Ins} (h : Box5 W B t i) (x : Ins) : Box5 (((((W.setCell ⟨B, 0, none⟩ (.int .i64 x.op)).setCell ⟨B, 1, none⟩ (.int .i64 x.to)).setCell ⟨B, 2, none⟩ (.int .i64 x.a)).setCell ⟨B, 3, none⟩ (.int .i64 x.b)).setCell ⟨B, 4, none⟩ (.int .i64 x.c)) B t x :=
  ((((h.set0 x.op).set1 x.to).set2 x.a).set3 x.b).set4 x.c
def bitOf : Value → Nat
  | .bool true => 1
  | _ => 0
theorem where_b (base : Nat) (v : Value) (L : List (Int × Int)) (w : World) (h : OwnPl w base v L) (hl : L.length ≤ 100000) (x : Int) :
    Calls Try.prog 38 #[v, .int .i64 x] w fun e w' => e = .returned (.int .i64 (whereF L x)) ∧ Below w.heap.size w w' :=
  (where_any base v L w h hl x).mono fun _ _ ⟨h1, h2⟩ => ⟨h1, by rw [h2]; exact Below.refl _ _⟩
theorem asks_shape (i : Ins) (h8 : 1 ≤ i.op ∧ i.op ≤ 8) : asksL i = if twoB i.op = true then [i.a, i.b] else [i.a] := by
  unfold asksL twoB
  by_cases h : i.op = 3 ∨ i.op = 4
  · rcases h with h | h <;> simp [h]
  · have h1 : ¬ i.op = 3 := fun e => h (.inl e)
    have h2 : ¬ i.op = 4 := fun e => h (.inr e)
    simp [h1, h2, h8]
end Go.Proofs.Ytheakienigmkhaa
