/- order.Alive: how many values a program needs at once. -/
import Derived.Test.YtheakienigmkhaaOrPa
namespace Go.Proofs.Ytheakienigmkhaa
open Go.RowKit Go.Shelf

/-- a box that holds a whole row of numbers -/
def EBox (w : World) (B g n : Nat) : Prop := w.heap[B]? = some (.cells #[.slice (some ⟨g, 0, none⟩) n n] 23 (0, 0))
section
variable {w w' : World} {B g n : Nat}
theorem EBox.lt (h : EBox w B g n) : B < w.heap.size := (Array.getElem?_eq_some_iff.1 h).1
theorem EBox.cell (h : EBox w B g n) : w.cell? ⟨B, 0, none⟩ = some (.slice (some ⟨g, 0, none⟩) n n) := by simp [World.cell?, show w.heap[B]? = _ from h]
theorem EBox.step (h : EBox w B g n) (hb : Below w.heap.size w w') : EBox w' B g n := (hb.block B h.lt).trans h
theorem EBox.set_ne (h : EBox w B g n) {C o : Nat} (hne : C ≠ B) (v : Value) : EBox (w.setCell ⟨C, o, none⟩ v) B g n := (Below.heap_setCell w ⟨C, o, none⟩ v B (Ne.symm hne)).trans h
theorem EBox.new (w : World) (g n : Nat) : EBox (w.alloc (.cells #[.slice (some ⟨g, 0, none⟩) n n] 23)) w.heap.size g n := heap_alloc_new _ _
end
/-- what a round of counting leaves -/
def entW (w : World) (A g : Nat) (u x : Int) (en : List Int) : World := if u = -1 then w else (w.setCell ⟨A, 0, none⟩ (.int .i64 (x + 1))).setCell ⟨g, u.toNat, none⟩ (.int .i64 (ot en u.toNat + 1))
def entL (u : Int) (en : List Int) : List Int := if u = -1 then en else en.set u.toNat (ot en u.toNat + 1)
def entX (u x : Int) : Int := if u = -1 then x else x + 1
set_option maxRecDepth 100000 in
set_option maxHeartbeats 4000000 in
theorem enter_any (u x : Int) (A Eb g : Nat) (en : List Int) (w : World) (hA : IArr w A [x]) (hE : EBox w Eb g en.length) (hg : IArr w g en) (hne : A ≠ Eb ∧ A ≠ g ∧ Eb ≠ g) (hu : u = -1 ∨ (0 ≤ u ∧ u < en.length)) (hx : 0 ≤ x ∧ x ≤ 100000) (he : ∀ j, 0 ≤ ot en j ∧ ot en j ≤ 100000) :
    Calls Try.prog 35 #[.int .i64 u, .pointer (some ⟨A, 0, none⟩), .pointer (some ⟨Eb, 0, none⟩)] w fun e w' => e = .returned (.tuple #[]) ∧ w' = entW w A g u x en := by
  by_cases h : u = -1
  · subst h
    go_enter Try.func35, Try.ntmps35
    go_wp2
    go_end0
    exact ⟨rfl, rfl⟩
  · obtain ⟨t, rfl⟩ : ∃ t : Nat, u = t := ⟨u.toNat, by omega⟩
    have ht : t < en.length := by omega
    have a0 : w.cell? ⟨A, 0, none⟩ = some (.int .i64 x) := by have := hA.cell (k := 0) (by simp); simpa [ot] using this
    have fa := hA.free 0
    have hE2 := hE.set_ne (o := 0) hne.1 (.int .i64 (x + 1))
    have e0 := hE2.cell
    have hg2 := hg.other (b := A) (o := 0) hne.2.1 (.int .i64 (x + 1))
    have g0 := hg2.cell ht
    have fg := hg2.free t
    have het := he t
    have hw : entW w A g (t : Int) x en = (w.setCell ⟨A, 0, none⟩ (.int .i64 (x + 1))).setCell ⟨g, t, none⟩ (.int .i64 (ot en t + 1)) := by unfold entW; rw [if_neg h]; rfl
    rw [hw]
    clear hE hg hA he hw hE2 hg2
    generalize ot en t = y at *
    go_enter Try.func35, Try.ntmps35
    go_upto_region 2 with fail
    clear a0 fa
    generalize hw2 : w.setCell ⟨A, 0, none⟩ (.int .i64 (x + 1)) = w2 at *
    go_wp2
    go_end0
    exact ⟨rfl, by rw [← hw2]⟩

/-- how many of these are asked there for the last time -/
def cE (j : Nat) (l : List Int) : Nat := l.countP (fun u => decide (u = (j : Int)))
def enL (n : Nat) (l : List Int) : List Int := (List.range (n + 1)).map (fun j => ((cE j l : Nat) : Int))
theorem enL_nil (n : Nat) : enL n [] = List.replicate (n + 1) 0 := by
  apply List.ext_getElem
  · simp [enL]
  · intro i h1 h2; simp [enL, cE]
theorem enL_len (n : Nat) (l : List Int) : (enL n l).length = n + 1 := by simp [enL]
theorem ot_enL {n j : Nat} {l : List Int} (h : j ≤ n) : ot (enL n l) j = cE j l := by unfold enL; rw [ot_map_range (by omega)]
theorem enL_bound (n : Nat) (l : List Int) (j : Nat) : 0 ≤ ot (enL n l) j ∧ ot (enL n l) j ≤ l.length := by
  by_cases h : j ≤ n
  · rw [ot_enL h]
    have : cE j l ≤ l.length := List.countP_le_length
    omega
  · have : ot (enL n l) j = 0 := by
      unfold ot
      rw [List.getD_eq_getElem?_getD, List.getElem?_eq_none (by rw [enL_len]; omega)]; rfl
    omega
theorem cE_app (j : Nat) (l : List Int) (u : Int) : cE j (l ++ [u]) = cE j l + (if u = (j : Int) then 1 else 0) := by
  unfold cE; rw [List.countP_append]; by_cases h : u = (j : Int) <;> simp [h]
theorem enL_ent {n : Nat} {l : List Int} {u : Int} (h : u = -1 ∨ (0 ≤ u ∧ u ≤ n)) : entL u (enL n l) = enL n (l ++ [u]) := by
  unfold entL
  by_cases hu : u = -1
  · rw [if_pos hu]
    unfold enL
    refine List.map_congr_left (fun j _ => ?_)
    rw [cE_app, if_neg (by omega)]; rfl
  · rw [if_neg hu]
    obtain ⟨t, rfl⟩ : ∃ t : Nat, u = t := ⟨u.toNat, by omega⟩
    rw [Int.toNat_natCast, ot_enL (by omega)]
    apply List.ext_getElem
    · simp [enL]
    · intro i h1 h2
      rw [List.getElem_set]
      simp only [enL, List.getElem_map, List.getElem_range]
      rw [cE_app]
      split
      · next e => subst e; rw [if_pos rfl]; rfl
      · next e => rw [if_neg (by omega)]; rfl
theorem cntK_ent {j : Nat} {l : List Int} {u : Int} (h : u = -1 ∨ (j : Int) ≤ u) : entX u (cntK j l : Int) = (cntK j (l ++ [u]) : Int) := by
  unfold entX
  rw [cntK_app, cntK_one]
  split
  · next e => rw [if_neg (by omega)]; rfl
  · next e => rw [if_pos (by omega)]; rfl
theorem cntK_down (k : Nat) (l : List Int) : cntK k l = cntK (k + 1) l + cE k l := by
  induction l with
  | nil => rfl
  | cons u l ih =>
    unfold cntK cE at *
    rw [List.countP_cons, List.countP_cons, List.countP_cons, ih]
    by_cases h1 : u = (k : Int)
    · subst h1
      rw [if_pos (by simp), if_neg (by simp; omega), if_pos (by simp)]; omega
    · by_cases h2 : (k : Int) ≤ u
      · rw [if_pos (by simpa using h2), if_pos (by simp; omega), if_neg (by simpa using h1)]; omega
      · rw [if_neg (by simpa using h2), if_neg (by simp; omega), if_neg (by simpa using h1)]; omega
theorem cntK_len (k : Nat) (l : List Int) : cntK k l ≤ l.length := List.countP_le_length
theorem lasts_len (p : Pg) (k : Nat) : (lasts p k).length = p.ins.toNat + 1 + k := by unfold lasts; rw [List.length_append, List.length_map, List.length_range]; congr 1; exact fstL_length p _
/-- what stands while the values are counted -/
structure AL (w0 W : World) (Lb A Eb g gf gs ni n : Nat) (F S : List Int) (x : Int) (en : List Int) : Prop where
  bel : Below w0.heap.size w0 W
  fx : IArr W gf F
  sx : IArr W gs S
  lx : Box2 W Lb 67 (.slice (some ⟨gf, 0, none⟩) ni ni) (.slice (some ⟨gs, 0, none⟩) n n)
  ax : IArr W A [x]
  ex : EBox W Eb g (n + 1)
  gx : IArr W g en
  ge : w0.heap.size ≤ A ∧ w0.heap.size ≤ g ∧ A ≠ Eb ∧ A ≠ g ∧ Eb ≠ g ∧ gf ≠ A ∧ gf ≠ g ∧ gs ≠ A ∧ gs ≠ g ∧ Lb ≠ A ∧ Lb ≠ g
section
variable {w0 W : World} {Lb A Eb g gf gs ni n : Nat} {F S : List Int} {x : Int} {en : List Int}
theorem AL.setA (h : AL w0 W Lb A Eb g gf gs ni n F S x en) (y : Int) : AL w0 (W.setCell ⟨A, 0, none⟩ (.int .i64 y)) Lb A Eb g gf gs ni n F S y en := by
  obtain ⟨h1, h2, h3, h4, h5, h6, h7, g1, g2, g3, g4, g5, g6, g7, g8, g9, g10, g11⟩ := h
  exact ⟨h1.setCell (p := ⟨A, 0, none⟩) g1 _, h2.other (Ne.symm g6) _, h3.other (Ne.symm g8) _, h4.set_ne (Ne.symm g10) _, h5.set 0 y, h6.set_ne g3 _, h7.other g4 _, g1, g2, g3, g4, g5, g6, g7, g8, g9, g10, g11⟩
theorem AL.setG (h : AL w0 W Lb A Eb g gf gs ni n F S x en) (t : Nat) (y : Int) : AL w0 (W.setCell ⟨g, t, none⟩ (.int .i64 y)) Lb A Eb g gf gs ni n F S x (en.set t y) := by
  obtain ⟨h1, h2, h3, h4, h5, h6, h7, g1, g2, g3, g4, g5, g6, g7, g8, g9, g10, g11⟩ := h
  exact ⟨h1.setCell (p := ⟨g, t, none⟩) g2 _, h2.other (Ne.symm g7) _, h3.other (Ne.symm g9) _, h4.set_ne (Ne.symm g11) _, h5.other (Ne.symm g4) _, h6.set_ne (Ne.symm g5) _, h7.set t y, g1, g2, g3, g4, g5, g6, g7, g8, g9, g10, g11⟩
theorem AL.ent (h : AL w0 W Lb A Eb g gf gs ni n F S x en) (u : Int) : AL w0 (entW W A g u x en) Lb A Eb g gf gs ni n F S (entX u x) (entL u en) := by
  unfold entW entX entL
  by_cases e : u = -1
  · rw [if_pos e, if_pos e, if_pos e]; exact h
  · rw [if_neg e, if_neg e, if_neg e]; exact (h.setA _).setG _ _
theorem AL.a0 (h : AL w0 W Lb A Eb g gf gs ni n F S x en) : W.cell? ⟨A, 0, none⟩ = some (.int .i64 x) := h.ax.cell (k := 0) (by simp)
theorem AL.drew (h : AL w0 W Lb A Eb g gf gs ni n F S x en) : AL w0 W.drew Lb A Eb g gf gs ni n F S x en :=
  ⟨h.bel.drew, h.fx, h.sx, h.lx, h.ax, h.ex, h.gx, h.ge⟩
end

theorem take_snoc {l : List Int} {k : Nat} (h : k < l.length) : l.take (k + 1) = l.take k ++ [ot l k] := by
  rw [List.take_add_one, List.getElem?_eq_getElem h]; simp [ot, h]
theorem fst_bound {p : Pg} {k : Nat} (hk : k < p.ins.toNat + 1) : ot (fst_ p) k = -1 ∨ (0 ≤ ot (fst_ p) k ∧ ot (fst_ p) k ≤ p.code.length) := by
  by_cases h : k < p.ins.toNat
  · have e := fstL_in p k h p.regs.toNat
    unfold fst_
    rw [e]
    split
    · have := uAt_bound (p := p) (k := 0) (Nat.zero_le _) k; omega
    · exact .inl rfl
  · have ek : k = p.ins.toNat := by omega
    subst ek
    obtain ⟨z1, _, z3⟩ := fstL_zero p p.regs.toNat
    unfold fst_
    by_cases h0 : 0 ≤ ot (fstL p p.regs.toNat) p.ins.toNat
    · obtain ⟨r, _, _, r3⟩ := z3 h0
      have := uAt_bound (p := p) (k := 0) (Nat.zero_le _) r; omega
    · omega
theorem mostN_small {p : Pg} (hr : rightB p = true) : ∀ {k : Nat}, k ≤ 400 → mostN p k ≤ 1000
  | 0, _ => by
    have h1 := right_parts hr
    have h2 := cntK_len 0 (lasts p 0)
    rw [lasts_len] at h2
    show alN p 0 ≤ 1000
    unfold alN; omega
  | k + 1, h => by
    have h1 := right_parts hr
    have h2 := cntK_len (k + 1) (lasts p (k + 1))
    rw [lasts_len] at h2
    have h3 := mostN_small hr (k := k) (by omega)
    show max (mostN p k) (alN p (k + 1)) ≤ 1000
    unfold alN; omega
def OrAlR (e : Ending) (p : Pg) : Prop := e = if rightB p = true then .returned (.tuple #[.int .i64 (mostN p p.code.length), .int .i64 0]) else .returned (.tuple #[.int .i64 0, .int .i64 80])
set_option maxRecDepth 100000 in
set_option maxHeartbeats 8000000 in
theorem oralive_any (v : Value) (p : Pg) (w : World) (h : PgAt w v p) (hl4 : rightB p = true → p.code.length ≤ 400) :
    Calls Try.prog 16 #[v] w fun e w' => OrAlR e p ∧ Below w.heap.size w w' := by
  have HP := hide h
  have HL := hide hl4
  obtain ⟨ca, cc, oa, oc, rfl, hc, ho⟩ := h
  clear hc ho hl4
  go_enter Try.func16, Try.ntmps16
  go_upto_region 1 with fail
  have b1 := below_alloc w (.cells #[.int .i64 p.ins, .int .i64 p.regs, .slice ca p.code.length cc, .slice oa p.outs.length oc] 25)
  have PX := hide (Box4.new w 25 (.int .i64 p.ins) (.int .i64 p.regs) (.slice ca p.code.length cc) (.slice oa p.outs.length oc))
  replace HP := hide (HP.out.below b1)
  have HB := hide b1
  clear b1
  generalize w.alloc (.cells #[.int .i64 p.ins, .int .i64 p.regs, .slice ca p.code.length cc, .slice oa p.outs.length oc] 25) = w1 at *
  obtain ⟨B0, hB⟩ : ∃ B, B = w.heap.size := ⟨_, rfl⟩
  have HZ := hide hB
  rw [← hB] at PX ⊢
  clear hB
  have c0 := PX.out.cell0
  have c1 := PX.out.cell1
  have c2 := PX.out.cell2
  have c3 := PX.out.cell3
  go_wp2_with fail
  refine (check_any _ p _ HP.out).mono ?_
  rintro e w2 ⟨rfl, hb⟩
  replace HP := hide (HP.out.below hb)
  replace PX := hide (PX.out.step hb)
  replace HB := hide (HB.out.trans (hb.mono HB.out.size))
  clear hb c0 c1 c2 c3
  cases hr : rightB p with
  | false =>
    have HRR := hide hr
    rw [ck_wrong hr]
    clear hr
    generalize chkK p = kk
    go_wp2
    go_ret2
    exact ⟨by unfold OrAlR; rw [HRR.out, if_neg (by decide)]; rfl, HB.out⟩
  | true =>
    have HRR := hide hr
    rw [ck_right hr]
    clear hr
    have c0 := PX.out.cell0
    have c1 := PX.out.cell1
    have c2 := PX.out.cell2
    have c3 := PX.out.cell3
    go_wp2_with fail
    refine (lives_any _ p _ HP.out HRR.out (HL.out HRR.out)).mono ?_
    rintro e w3 ⟨⟨gf, gs, rfl, hF, hS, hgf, hgs, hne⟩, hb⟩
    replace HP := hide (HP.out.below hb)
    replace PX := hide (PX.out.step hb)
    replace HB := hide (HB.out.trans (hb.mono HB.out.size))
    have FX := hide hF
    have SX := hide hS
    clear hF hS hgf hgs hne hb c0 c1 c2 c3
    have c0 := PX.out.cell0
    have c1 := PX.out.cell1
    have c2 := PX.out.cell2
    have c3 := PX.out.cell3
    clear c0 c1 c2 c3
    go_upto_region 6 with fail
    have hb := below_alloc w3 (.cells #[.slice (some ⟨gf, 0, none⟩) (p.ins.toNat + 1) (p.ins.toNat + 1), .slice (some ⟨gs, 0, none⟩) p.code.length p.code.length] 67)
    have LX := hide (Box2.new w3 67 (.slice (some ⟨gf, 0, none⟩) (p.ins.toNat + 1) (p.ins.toNat + 1)) (.slice (some ⟨gs, 0, none⟩) p.code.length p.code.length))
    replace PX := hide (PX.out.step hb)
    replace FX := hide (FX.out.step hb)
    replace SX := hide (SX.out.step hb)
    replace HB := hide (HB.out.trans (hb.mono HB.out.size))
    obtain ⟨w4, hw4⟩ : ∃ w4, w4 = w3.alloc (.cells #[.slice (some ⟨gf, 0, none⟩) (p.ins.toNat + 1) (p.ins.toNat + 1), .slice (some ⟨gs, 0, none⟩) p.code.length p.code.length] 67) := ⟨_, rfl⟩
    rw [← hw4] at hb LX PX FX SX HB ⊢
    have z4 : w4.heap.size = w3.heap.size + 1 := by rw [hw4, World.size_alloc]
    clear hw4 hb
    generalize w3.heap.size = Lb at *
    have hb := below_alloc w4 (.cells #[.int .i64 0] 3)
    have AX := hide (show IArr (w4.alloc (.cells #[.int .i64 0] 3)) w4.heap.size [0] from IArr.new w4 [0])
    have GA := hide (And.intro FX.out.lt (And.intro SX.out.lt (And.intro LX.out.lt HB.out.size)))
    replace PX := hide (PX.out.step hb)
    replace FX := hide (FX.out.step hb)
    replace SX := hide (SX.out.step hb)
    replace LX := hide (LX.out.step hb)
    replace HB := hide (HB.out.trans (hb.mono HB.out.size))
    rw [z4] at AX GA
    obtain ⟨A, hA⟩ : ∃ A, A = Lb + 1 := ⟨_, rfl⟩
    rw [← hA] at AX GA ⊢
    obtain ⟨w5, hw5⟩ : ∃ w5, w5 = w4.alloc (.cells #[.int .i64 0] 3) := ⟨_, rfl⟩
    rw [← hw5] at hb AX LX PX FX SX HB ⊢
    have z5 : w5.heap.size = A + 1 := by rw [hw5, World.size_alloc, z4, hA]
    clear hw5 hb hA z4
    have l4 := HL.out HRR.out
    have hmk := fun w => run_makeT (p.code.length + 1) (by omega) w
    rw [show ((p.code.length + 1 : Nat) : Int) = (p.code.length : Int) + 1 from rfl] at hmk
    have c0 := PX.out.cell0
    have c1 := PX.out.cell1
    have c2 := PX.out.cell2
    have c3 := PX.out.cell3
    go_upto_region 7 with fail
    clear hmk c0 c1 c2 c3
    have hb := below_alloc w5 (.cells (intCells (List.replicate (p.code.length + 1) 0)).toArray 3)
    have hb2 := below_alloc (w5.alloc (.cells (intCells (List.replicate (p.code.length + 1) 0)).toArray 3)) (.cells #[.slice (some ⟨A + 1, 0, none⟩) (p.code.length + 1) (p.code.length + 1)] 23)
    have GX := hide (((IArr.new w5 (List.replicate (p.code.length + 1) 0))).step hb2)
    rw [z5] at GX
    have EX := hide (EBox.new (w5.alloc (.cells (intCells (List.replicate (p.code.length + 1) 0)).toArray 3)) (A + 1) (p.code.length + 1))
    rw [World.size_alloc, z5] at EX
    have hb3 := hb.trans (hb2.mono hb.size)
    clear hb hb2
    have G5 := hide (And.intro FX.out.lt (And.intro SX.out.lt (And.intro LX.out.lt AX.out.lt)))
    rw [z5] at G5
    have N0 : Hid (AL w ((w5.alloc (.cells (intCells (List.replicate (p.code.length + 1) 0)).toArray 3)).alloc (.cells #[.slice (some ⟨A + 1, 0, none⟩) (p.code.length + 1) (p.code.length + 1)] 23)) Lb A (A + 1 + 1) (A + 1) gf gs (p.ins.toNat + 1) p.code.length (fst_ p) (setL p) (((cntK 0 ((fst_ p).take 0) : Nat)) : Int) (enL p.code.length ((fst_ p).take 0))) := hide ⟨HB.out.trans (hb3.mono HB.out.size), FX.out.step hb3, SX.out.step hb3, LX.out.step hb3, AX.out.step hb3, EX.out, (by rw [List.take_zero, enL_nil]; exact GX.out), by have h1 := GA.out; have h2 := G5.out; refine ⟨?_, ?_, ?_, ?_, ?_, ?_, ?_, ?_, ?_, ?_, ?_⟩ <;> omega⟩
    clear HP PX FX SX LX AX EX GX HB GA G5 hb3 z5
    generalize (w5.alloc (.cells (intCells (List.replicate (p.code.length + 1) 0)).toArray 3)).alloc (.cells #[.slice (some ⟨A + 1, 0, none⟩) (p.code.length + 1) (p.code.length + 1)] 23) = w7 at *
    generalize A + 1 + 1 = Eb at *
    generalize A + 1 = g at *
    have fl : Hid ((fst_ p).length = p.ins.toNat + 1) := hide (fstL_length p _)
    have FB := hide (fun k hk => fst_bound (p := p) (k := k) hk)
    have i129 : p.ins.toNat + 1 ≤ 129 := by have h1 := right_parts HRR.out; omega
    generalize p.ins.toNat + 1 = ni at *
    have l0 := N0.out.lx.cell0
    have l1 := N0.out.lx.cell1
    go_wp2
    clear l0 l1
    go_loopw [11, 34] (fun _ kv wr => ∃ k : Nat, k ≤ ni ∧ kv = .int .i64 k ∧ AL w wr Lb A Eb g gf gs (ni) p.code.length (fst_ p) (setL p) (((cntK 0 ((fst_ p).take k) : Nat)) : Int) (enL p.code.length ((fst_ p).take k))) (fun _ kv _ => ni - (intOf kv).toNat)
    case atStart => exact ⟨0, Nat.zero_le _, rfl, N0.out⟩
    case round =>
      clear N0
      obtain ⟨k, hk, rfl, hN⟩ := hrel
      have NN := hide hN
      clear hN
      have hle : (fst_ p).length = ni := fl.out
      by_cases hlt : k < ni
      · have cf := NN.out.fx.cell (k := k) (by omega)
        have hu := FB.out k hlt
        have tk := take_snoc (l := fst_ p) (k := k) (by omega)
        have lt : ((fst_ p).take k).length ≤ 129 := by rw [List.length_take]; omega
        generalize ot (fst_ p) k = u at *
        clear hle
        go_wp2_with fail
        refine (enter_any u _ A Eb g _ wr NN.out.ax (by rw [enL_len]; exact NN.out.ex) NN.out.gx ⟨NN.out.ge.2.2.1, NN.out.ge.2.2.2.1, NN.out.ge.2.2.2.2.1⟩ (by rw [enL_len]; omega) (by have := cntK_len 0 ((fst_ p).take k); omega) (fun j => by have := enL_bound p.code.length ((fst_ p).take k) j; omega)).mono ?_
        rintro e w8 ⟨rfl, h8⟩
        have N8 := NN.out.ent u
        rw [← h8, cntK_ent (by omega), enL_ent hu, ← tk] at N8
        have N9 := hide N8
        clear N8 h8 NN cf
        go_wp2
        go_roundw
        case rel => exact ⟨k + 1, by omega, by go_num, N9.out⟩
        case measure => simp [intOf]; omega
      · have e : k = ni := by omega
        subst e
        have N1 := NN.out
        rw [List.take_of_length_le (by omega), show fst_ p = lasts p 0 by simp [lasts]] at N1
        have N2 := hide N1
        clear N1 NN hle
        have M0 : Hid (AL w wr Lb A Eb g gf gs k p.code.length (fst_ p) (setL p) ((alN p 0 : Nat) : Int) (enL p.code.length (lasts p 0))) := hide (by have := N2.out; rw [show lasts p 0 = fst_ p by simp [lasts]] at this ⊢; unfold alN; rw [show lasts p 0 = fst_ p by simp [lasts]]; exact this)
        clear N2
        have i401 := HL.out HRR.out
        have l0 := M0.out.lx.cell0
        have l1 := M0.out.lx.cell1
        have a0 := M0.out.a0
        have zl : (lasts p 0).length ≤ 1000 := by have h1 := right_parts HRR.out; rw [lasts_len]; omega
        have z0 := cntK_len 0 (lasts p 0)
        go_wp2
        clear l0 l1 a0
        go_loopw [12, 13, 14, 46] (fun mv _ _ kv w9 => ∃ j : Nat, j ≤ p.code.length ∧ kv = .int .i64 j ∧ mv = .int .i64 ((mostN p j : Nat) : Int) ∧ AL w w9 Lb A Eb g gf gs k p.code.length (fst_ p) (setL p) ((alN p j : Nat) : Int) (enL p.code.length (lasts p j))) (fun _ _ _ kv _ => p.code.length - (intOf kv).toNat)
        case atStart => exact ⟨0, Nat.zero_le _, rfl, rfl, M0.out⟩
        case round =>
          clear M0
          obtain ⟨j, hj, rfl, rfl, hN⟩ := hrel
          have NN := hide hN
          clear hN zl z0
          have zl : (lasts p j).length ≤ 1000 := by have h1 := right_parts HRR.out; rw [lasts_len]; omega
          by_cases hlt2 : j < p.code.length
          · have cs := NN.out.sx.cell (k := j) (by simp [setL]; omega)
            have es : ot (setL p) j = setA p j := by unfold setL; rw [ot_map_range hlt2]
            rw [es] at cs
            clear es
            have SB := setA_bound hlt2
            have a0 := NN.out.a0
            have e0 := NN.out.ex.cell
            have g0 := NN.out.gx.cell (k := j) (by rw [enL_len]; omega)
            rw [ot_enL (by omega)] at g0
            have fa := NN.out.ax.free 0
            have hd : alN p j = cntK (j + 1) (lasts p j) + cE j (lasts p j) := cntK_down j _
            have hx := cntK_len j (lasts p j)
            have hx2 : alN p j ≤ 1000 := by unfold alN; omega
            have hxy : ((alN p j : Nat) : Int) - ((cE j (lasts p j) : Nat) : Int) = ((cntK (j + 1) (lasts p j) : Nat) : Int) := by omega
            have MS := hide (NN.out.setA ((cntK (j + 1) (lasts p j) : Nat) : Int)).drew
            have hm1 := mostN_small (p := p) (k := j) HRR.out (by omega)
            have hls := lasts_succ p j
            generalize setA p j = u at *
            clear NN
            go_upto_region 17 with fail
            go_region
            clear cs a0 e0 g0 fa hxy hx hd hx2
            obtain ⟨w10, hw10⟩ : ∃ w10, w10 = (World.setCell wr ⟨A, 0, none⟩ (.int .i64 ((cntK (j + 1) (lasts p j) : Nat) : Int))).drew := ⟨_, rfl⟩
            rw [← hw10] at MS ⊢
            clear hw10
            go_wp2_with fail
            refine (enter_any u _ A Eb g _ w10 MS.out.ax (by rw [enL_len]; exact MS.out.ex) MS.out.gx ⟨MS.out.ge.2.2.1, MS.out.ge.2.2.2.1, MS.out.ge.2.2.2.2.1⟩ (by rw [enL_len]; omega) (by have := cntK_len (j + 1) (lasts p j); omega) (fun i => by have := enL_bound p.code.length (lasts p j) i; omega)).mono ?_
            rintro e w8 ⟨rfl, h8⟩
            have N8 := MS.out.ent u
            rw [← h8, cntK_ent (by omega), enL_ent (by omega), ← hls] at N8
            have N9 : Hid (AL w w8 Lb A Eb g gf gs k p.code.length (fst_ p) (setL p) ((alN p (j + 1) : Nat) : Int) (enL p.code.length (lasts p (j + 1)))) := hide N8
            have a0 := N9.out.a0
            clear N8 h8 MS
            go_wp2
            go_roundw
            case rel => exact ⟨j + 1, by omega, by go_num, by rw [show mostN p (j + 1) = max (mostN p j) (alN p (j + 1)) from rfl]; congr 1; omega, N9.out⟩
            case measure => simp [intOf]; omega
          · have e2 : j = p.code.length := by omega
            subst e2
            go_wp2
            go_ret2
            exact ⟨by unfold OrAlR; rw [HRR.out, if_pos rfl]; rfl, NN.out.bel⟩
end Go.Proofs.Ytheakienigmkhaa
