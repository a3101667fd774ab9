/- swagelaw15.idle: the numbers that dead.Idle tells, as a list. -/
import Derived.Test.YtcciojlbfaanmaaDdKp
namespace Go.Proofs.Ytcciojlbfaanmaa
open Go.RowKit Go.Shelf
attribute [local go_sem] Oper.semAt_some

def nums (l : List Nat) : List Int := l.map (fun k : Nat => (k : Int))
theorem nums_app (l : List Nat) (x : Nat) : nums (l ++ [x]) = nums l ++ [(x : Int)] := by simp [nums]
/-- what stands while the numbers are told -/
structure LP (w : World) (Bc lo hi : Nat) (vc : Value) (l : List Int) (Z : World) : Prop where
  bel : Below w.heap.size w Z
  cx : Boxed Z Bc 23 vc
  oc : OwnO Z hi vc l
  sz : hi ≤ Z.heap.size
  ge : w.heap.size ≤ Bc ∧ Bc < lo ∧ lo ≤ hi
section
variable {w Z Z' : World} {Bc lo hi : Nat} {vc : Value} {l : List Int}
theorem LP.keep (h : LP w Bc lo hi vc l Z) (hb : Below w.heap.size w Z') (hs : Z.heap.size ≤ Z'.heap.size) (e : ∀ (k : Nat) (o : Obj), Z.heap[k]? = some o → o.isCells = true → Z'.heap[k]? = some o) : LP w Bc lo hi vc l Z' :=
  ⟨hb, e _ _ h.cx rfl, rowKeep h.oc e, Nat.le_trans h.sz hs, h.ge⟩
theorem LP.below (h : LP w Bc lo hi vc l Z) (hb : Below Z.heap.size Z Z') : LP w Bc lo hi vc l Z' :=
  h.keep (h.bel.trans (hb.mono h.bel.size)) hb.size (fun k _ h1 _ => (hb.block k (Array.getElem?_eq_some_iff.1 h1).1).trans h1)
theorem LP.grow (h : LP w Bc lo hi vc l Z) (hg : Z.grownBy Z' vc.ownBlock) : Boxed Z' Bc 23 vc :=
  (hg.block Bc h.cx.lt (fun e => by have := (World.ownsRow.lt h.oc Bc e.symm).1; have := h.ge; omega)).trans h.cx
theorem LP.cells (h : LP w Bc lo hi vc l Z) {r : Nat} (e : vc.ownBlock = some r) : (r < lo ∨ hi ≤ r) ∧ ∃ cs t f, Z.heap[r]? = some (.cells cs t f) := by
  rcases h.oc.2 with ⟨rfl, _⟩ | ⟨g, cap, cur, rfl, hg, hh, _⟩
  · cases e
  · have e1 : g = r := by simpa [Value.ownBlock] using e
    subst e1
    exact ⟨.inr hg, _, _, _, hh⟩
theorem LP.app (h : LP w Bc lo hi vc l Z) {v' : Value} {l' : List Int} (hg : Z.grownBy Z' vc.ownBlock) (ho : OwnO Z' hi v' l') : LP w Bc lo hi v' l' (Z'.setCell ⟨Bc, 0, none⟩ v') := by
  have hlt : ∀ k, vc.ownBlock = some k → hi ≤ k := fun k hk => (World.ownsRow.lt h.oc k hk).1
  have g := h.ge
  have bc := h.grow hg
  exact ⟨(h.bel.grown hg h.bel.size (fun k hk => Nat.le_trans (by omega) (hlt k hk))).setCell (p := ⟨Bc, 0, none⟩) (by show w.heap.size ≤ Bc; omega) _, bc.set _, rowSet ho bc (by decide), by have h1 := h.sz; have h2 := hg.size; simp only [World.setCell, Array.size_modify]; omega, g⟩
end
def IL (w : World) (Bc lo hi : Nat) (pre : List Nat) (Z : World) : Prop := ∃ vc, LP w Bc lo hi vc (nums pre) Z
theorem IL.own {w : World} {Bc lo hi C : Nat} (h : w.heap.size ≤ C) : OwnFrom C (IL w Bc lo hi) := fun _ X Y row ⟨vc, q⟩ hg hr =>
  ⟨vc, q.keep (q.bel.grown hg q.bel.size (fun r e => Nat.le_trans h (hr r e).1)) hg.size (fun k o e1 e2 => (hg.block k (Array.getElem?_eq_some_iff.1 e1).1 (fun e => by obtain ⟨_, o', ho, hc⟩ := hr k e.symm; rw [e1] at ho; cases ho; rw [e2] at hc; cases hc)).trans e1)⟩
theorem eql_funcI (w : World) (lb : Array Value) : (binOp .eql 56 (.func (.func 50) #[] lb) .nilFunc).run Try.prog w = .ok (.bool false) w := by
  have h : ∀ d, (Op.equalIn (d + 1) 56 (.func (.func 50) #[] lb) .nilFunc).run Try.prog w = .ok false w := fun d => by simp [Op.equalIn, run_underlying Try.underlying56]
  simp only [binOp]
  simp [Op.equal, Op.maxDepth, h 9999]
set_option maxRecDepth 100000 in
set_option maxHeartbeats 8000000 in
theorem lidle_any (v : Value) (p : Pg) (w : World) (h : PgAt w v p) (hl4 : rightB p = true → p.code.length ≤ 400) :
    Calls Try.prog 24 #[v] w fun e w' => (∃ vo, e = .returned vo ∧ OwnO w' w.heap.size vo (nums (ixsK (idR p) (idR p).length))) ∧ Below w.heap.size w w' := by
  have HP := hide h
  have HL := hide hl4
  have LI : Hid ((idR p).length ≤ 400) := hide (by unfold idR; split; (rename_i hq; rw [idL_length]; exact hl4 hq); exact Nat.zero_le _)
  obtain ⟨ca, cc, oa, oc, rfl, hc, ho⟩ := h
  clear hc ho hl4
  refine callsC (n := 3) Try.func24 rfl ?_
  simp only [Try.ntmps24, List.size_toArray, List.length_cons, List.length_nil, Nat.reduceAdd, Nat.reduceSub, Array.replicate_succ, Array.replicate_zero, List.push_toArray, List.append_toArray, List.nil_append, List.cons_append]
  go_upto_region 2 with fail
  have b1 := below_alloc w (.cells #[.int .i64 p.ins, .int .i64 p.regs, .slice ca p.code.length cc, .slice oa p.outs.length oc] 25)
  have b2 := below_alloc (w.alloc (.cells #[.int .i64 p.ins, .int .i64 p.regs, .slice ca p.code.length cc, .slice oa p.outs.length oc] 25)) (.cells #[.slice none 0 0] 23)
  have PX := hide ((Box4.new w 25 (.int .i64 p.ins) (.int .i64 p.regs) (.slice ca p.code.length cc) (.slice oa p.outs.length oc)).step b2)
  have XC := hide (Boxed.new (w.alloc (.cells #[.int .i64 p.ins, .int .i64 p.regs, .slice ca p.code.length cc, .slice oa p.outs.length oc] 25)) 23 (.slice none 0 0))
  rw [World.size_alloc] at XC
  replace HP := hide ((HP.out.below b1).below b2)
  have HB := hide (b1.trans (b2.mono b1.size))
  clear b1 b2
  generalize (w.alloc (.cells #[.int .i64 p.ins, .int .i64 p.regs, .slice ca p.code.length cc, .slice oa p.outs.length oc] 25)).alloc (.cells #[.slice none 0 0] 23) = w1 at *
  obtain ⟨B0, hB0⟩ : ∃ B0, B0 = w.heap.size := ⟨_, rfl⟩
  obtain ⟨Bc, hBc⟩ : ∃ Bc, Bc = w.heap.size + 1 := ⟨_, rfl⟩
  have HZ := hide (And.intro hB0 hBc)
  rw [← hBc] at XC ⊢
  rw [← hB0] at PX ⊢
  clear hB0 hBc
  have c0 := PX.out.cell0
  have c1 := PX.out.cell1
  have c2 := PX.out.cell2
  have c3 := PX.out.cell3
  go_wp2_with fail
  refine (idle_any _ p _ HP.out HL.out).mono ?_
  rintro e w8 ⟨⟨bx, vb, rfl, hx1, hbx, hO⟩, hb⟩
  obtain ⟨lo, hlo⟩ : ∃ lo, lo = w1.heap.size := ⟨_, rfl⟩
  rw [← hlo] at hO hx1
  have N8 : Hid (LP w Bc lo w8.heap.size (.slice none 0 0) (nums []) w8) := hide ⟨HB.out.trans (hb.mono HB.out.size), boxed_step XC.out hb, World.ownsRow_nil _ _ _ _, Nat.le_refl _, by have h1 := HZ.out; have h2 := XC.out.lt; have h3 := hb.size; omega⟩
  have hq := eql_funcI
  have OB := hide hO
  have BX := hide hbx
  have WL : Hid (w.heap.size ≤ w8.heap.size) := hide N8.out.bel.size
  clear hO hbx hx1 hb hlo c0 c1 c2 c3 XC PX HP HB
  go_wp2_with fail
  refine (wpIn_wide (n := 3)).1 ?_
  refine rangeP frK (by omega) (gf := 50) (lb := #[.pointer (some ⟨bx, 0, none⟩)]) rfl (enters_of Try.func50 (by kernel_rfl) rfl) (idl_yields 2 (by omega) bx lo w8.heap.size lo vb (idR p) (by have := LI.out; omega) w8 OB.out (Nat.le_refl _) rfl BX.out.cell) rfl (fun h k => Keeps.trans h k) (fun W o hs k _ h2 => by rw [World.putObj_heap_other (by omega)]) (Below.refl _ _) (fun _ => rfl) (IL w Bc lo w8.heap.size) (fun _ _ _ => False) (IL.own WL.out) (fun _ => ownFrom_pure _ _) ⟨_, N8.out⟩ ?asg ?bd ?dn ?st
  case asg =>
    intro l pre x W K hI hK
    unfold encI
    simp only [List.zip_toArray, List.zip_cons_cons, List.zip_nil_right, List.foldl_toArray', List.size_toArray, List.length_cons, List.length_nil, List.foldl_cons, List.foldl_nil, List.setIfInBounds_toArray, List.set_cons_succ, List.set_cons_zero]
    gi_wp2
    exact hK _ _ (KeepsFrom.refl _ _) (Keeps.refl _ _ _) hI (by simp only [frK, encI, List.zip_toArray, List.zip_cons_cons, List.zip_nil_right, List.foldl_toArray', List.size_toArray, List.length_cons, List.length_nil, List.foldl_cons, List.foldl_nil, List.setIfInBounds_toArray, List.set_cons_succ, List.set_cons_zero])
  case bd =>
    rintro l pre x W ⟨vc, hkp⟩ hsp
    have Q := hide hkp
    have LN : Hid (pre.length ≤ 400) := hide (by have h1 := hsp.length_le; have h2 := ixsK_len (idR p) (idR p).length; have h3 := LI.out; rw [List.length_append, List.length_singleton] at h1; omega)
    clear hkp hsp
    unfold frK encI
    simp only [List.zip_toArray, List.zip_cons_cons, List.zip_nil_right, List.foldl_toArray', List.size_toArray, List.length_cons, List.length_nil, List.foldl_cons, List.foldl_nil, List.setIfInBounds_toArray, List.set_cons_succ, List.set_cons_zero]
    have cc0 := Q.out.cx.cell
    have al := below_alloc W (.cells #[.int .i64 (x : Int)] 3)
    have BO := hide (int1 W (x : Int) rfl)
    have Q2 := hide (Q.out.below al)
    have R2 := hide (Rn.below (B := w8.heap.size) (lo := lo) (hi := w8.heap.size) al Q.out.sz)
    clear al
    gi_wp2_with (gi_at_builtin; refine wpListIn_op rfl (by intro c h; cases h) fun K hK => ?_; refine wp_appO _ _ rfl w8.heap.size _ (nums pre) rfl Q2.out.oc _ [(x : Int)] rfl BO.out (by simp only [nums, List.length_map, List.length_singleton]; have := LN.out; omega) Q2.out.sz ?_; intro v0 w9 hown hgrow; refine hK _ _ ?_; obtain ⟨va1, vc1, hv1⟩ := own_slice hown; obtain ⟨n1, hn1⟩ : ∃ n1, n1 = (nums pre ++ [(x : Int)]).length := ⟨_, rfl⟩; rw [← hn1] at hv1; clear hn1; have C9 := hide (Q2.out.grow hgrow); have K9 := hide (Q2.out.app hgrow hown); have R9 := hide (R2.out.trans ((Rn.grown (B := w8.heap.size) (lo := lo) (hi := w8.heap.size) hgrow (fun r e => Q2.out.cells e) Q2.out.sz).trans (Rn.set (B := w8.heap.size) (lo := lo) (hi := w8.heap.size) (b := Bc) (o := 0) w9 v0 (.inl (by have := Q2.out.ge; omega))))); clear hown hgrow cc0; rw [hv1] at K9 R9 ⊢; have o3 := C9.out.cell; have of3 := C9.out.frozen)
    exact ⟨R9.out.kf, R9.out.kc, _, by rw [nums_app]; exact K9.out⟩
  case dn =>
    rintro D xs Z hD hxs ⟨vc, hkp⟩ hK
    subst hxs
    have Q := hide hkp
    have HD := hide hD
    have HK := hide hK
    have cc0 := hkp.cx.cell
    clear hkp hD hK
    simp only [Exit.inBlock, Exit.then]
    go_wp2
    refine leavesC (B := w8.heap.size) (I := fun (_ : Unit) V => OwnO V w8.heap.size vc (nums (ixsK (idR p) (idR p).length)) ∧ Below w.heap.size w V) (fun _ X Y row q hg hr => ⟨rowKeep q.1 (fun k o e1 e2 => (hg.block k (Array.getElem?_eq_some_iff.1 e1).1 (fun e => by obtain ⟨_, o', ho, hc⟩ := hr k e.symm; rw [e1] at ho; cases ho; rw [e2] at hc; cases hc)).trans e1), q.2.grown hg q.2.size (fun r e => Nat.le_trans WL.out (hr r e).1)⟩) () (fun V q => ⟨_, results_tmp rfl _ _ _, ⟨_, rfl, own_base q.1 WL.out⟩, q.2⟩) [D] _ (MarksC.one HD.out HK.out) ⟨Q.out.oc, Q.out.bel⟩
  case st => exact fun _ _ _ _ _ _ h _ => h.elim
end Go.Proofs.Ytcciojlbfaanmaa
