/- swageref14.Pass. -/
import Derived.Test.YtcciojlbfaanmaaShRr
import Derived.Test.YtcciojlbfaanmaaShPa
import Derived.Deep.CutRange
namespace Go.Proofs.Ytcciojlbfaanmaa
open Go.RowKit

theorem runS_ky (p : Pg) : ∀ k, KyOk (runS p k).keys
  | 0 => fun x hx => by simp [runS, begS] at hx
  | k + 1 => by
    have ih := runS_ky p k
    intro x hx
    replace hx : x ∈ ((runS p k).aft k (cd p.code k)).keys := hx
    unfold ShS.aft at hx
    split at hx
    · exact ih x hx
    · rcases List.mem_append.1 hx with hx | hx
      · exact ih x hx
      · simp only [List.mem_singleton] at hx
        subst hx
        exact keyI_ok _ _
theorem StAt.setHeld {w : World} {base S g cap : Nat} {vk : Value} {s : ShS} {m : Nat} (h : StAt w base S (.slice (some ⟨g, 0, none⟩) m cap) vk s) (t v : Int) : StAt (w.setCell ⟨g, t.toNat, none⟩ (.int .i64 v)) base S (.slice (some ⟨g, 0, none⟩) m cap) vk (s.set t v) := by
  have n1 : S ≠ g := by
    intro e
    subst e
    exact own_block_ne h.held h.box (by decide) rfl
  have n2 : vk.ownBlock ≠ some g := by
    rcases rows_ne h.keys h.held (by decide) with e | e
    · rw [e]; simp
    · exact e
  exact ⟨by have := h.box.other (C := g) (o := t.toNat) (Ne.symm n1) (.int .i64 v); simpa [ShS.set] using this, own_set_in h.held v, own_set_ne h.keys n2 _, h.ge⟩
theorem StillR.own {w w' : World} {base base' S n : Nat} {e : TypeId} {size : Nat} {v vk vh : Value} {xs : List Value} {s : ShS} (hs : StillR w w' S vk.ownBlock) (h : StAt w base S vh vk s) (ho : w.ownsRow base' e size v n xs) (h1 : e ≠ 47) (h2 : e ≠ 81) : w'.ownsRow base' e size v n xs := by
  refine ⟨ho.1, ?_⟩
  rcases ho.2 with h0 | ⟨g', cap, cur, rfl, hg, hh, r⟩
  · exact .inl h0
  · refine .inr ⟨g', cap, cur, rfl, hg, ?_, r⟩
    refine (hs.keep g' (Array.getElem?_eq_some_iff.1 hh).1 (fun e => ?_) (fun e => ?_)).trans hh
    · exact h1 (cells_type (e ▸ hh : w.heap[S]? = _) h.box)
    · exact own_block_ne h.keys hh (fun e => h2 e.symm) e.symm
theorem StillR.cells {w w' : World} {base S b : Nat} {e : TypeId} {vk vh : Value} {s : ShS} {c : Array Value} {f : Nat × Nat} (hs : StillR w w' S vk.ownBlock) (h : StAt w base S vh vk s) (ho : w.heap[b]? = some (.cells c e f)) (h1 : e ≠ 47) (h2 : e ≠ 81) : w'.heap[b]? = some (.cells c e f) :=
  (hs.keep b (Array.getElem?_eq_some_iff.1 ho).1 (fun e => h1 (cells_type (e ▸ ho : w.heap[S]? = _) h.box)) (fun e => own_block_ne h.keys ho (fun e => h2 e.symm) e.symm)).trans ho
/-- what is known within the pass: the state, what has been made -/
structure RPS (w0 w : World) (b2 : Nat) (p : Pg) (S O : Nat) (vh vk vc vo : Value) (s : ShS) (code : List Ins) (outs : List Int) : Prop where
  bel : Below w0.heap.size w0 w
  st : StAt w w0.heap.size S vh vk s
  box : Box4 w O 25 (.int .i64 p.ins) (.int .i64 p.regs) vc vo
  oc : OwnC w w0.heap.size vc code
  oo : OwnO w b2 vo outs
  vlt : (∀ k, vh.ownBlock = some k → k < b2) ∨ outs = []
  b2 : w0.heap.size ≤ b2 ∧ b2 ≤ w.heap.size
  ge : w0.heap.size ≤ O
section
variable {w0 w w' : World} {b2 : Nat} {p : Pg} {S O : Nat} {vh vk vc vo v' vk' : Value} {s s' : ShS} {code : List Ins} {outs : List Int}
theorem RPS.below (h : RPS w0 w b2 p S O vh vk vc vo s code outs) (hb : Below w.heap.size w w') : RPS w0 w' b2 p S O vh vk vc vo s code outs :=
  ⟨h.bel.trans (hb.mono h.bel.size), h.st.below hb, h.box.step hb, own_below h.oc hb, own_below h.oo hb, h.vlt, ⟨h.b2.1, Nat.le_trans h.b2.2 hb.size⟩, h.ge⟩
theorem RPS.drew (h : RPS w0 w b2 p S O vh vk vc vo s code outs) : RPS w0 w.drew b2 p S O vh vk vc vo s code outs := ⟨h.bel.drew, h.st.drew, h.box, h.oc, h.oo, h.vlt, h.b2, h.ge⟩
theorem RPS.reck (h : RPS w0 w b2 p S O vh vk vc vo s code outs) (hs : StillR w w' S vk.ownBlock) (hst : StAt w' w0.heap.size S vh vk' s') : RPS w0 w' b2 p S O vh vk' vc vo s' code outs :=
  ⟨h.bel.trans (hs.below h.bel.size h.st.ge (fun k hk => (World.ownsRow.lt h.st.keys k hk).1)), hst, hs.cells h.st h.box (by decide) (by decide), hs.own h.st h.oc (by decide) (by decide), hs.own h.st h.oo (by decide) (by decide), h.vlt, ⟨h.b2.1, Nat.le_trans h.b2.2 hs.bel.size⟩, h.ge⟩
theorem RPS.app (h : RPS w0 w b2 p S O vh vk vc vo s code outs) {l : List Ins} (hg : w.grownBy w' vc.ownBlock) (ho : OwnC w' w0.heap.size v' l) : RPS w0 (w'.setCell ⟨O, 2, none⟩ v') b2 p S O vh vk v' vo s l outs := by
  have n1 := own_block_ne h.oc h.box (by decide)
  have n2 := own_block_ne h.oc h.st.box (by decide)
  have bx : Box4 w' O _ _ _ _ _ := (hg.block O h.box.lt (fun e => n1 e.symm)).trans h.box
  have sb : Box3 w' S _ _ _ _ := (hg.block S h.st.box.lt (fun e => n2 e.symm)).trans h.st.box
  have hh := World.ownsRow.kept h.st.held hg (rows_ne h.st.held h.oc (by decide))
  have hk := World.ownsRow.kept h.st.keys hg (rows_ne h.st.keys h.oc (by decide))
  have hoo := World.ownsRow.kept h.oo hg (rows_ne h.oo h.oc (by decide))
  have nOS : O ≠ S := fun e => absurd (cells_type (e ▸ h.box : w.heap[S]? = _) h.st.box) (by decide)
  refine ⟨(h.bel.grown hg h.bel.size (fun k hk => (World.ownsRow.lt h.oc k hk).1)).setCell (p := ⟨O, 2, none⟩) h.ge _, ⟨sb.other nOS _, own_set_ne hh (own_block_ne hh bx (by decide)) _, own_set_ne hk (own_block_ne hk bx (by decide)) _, h.st.ge⟩, bx.set2 _, own_set_ne ho (own_block_ne ho bx (by decide)) _, own_set_ne hoo (own_block_ne hoo bx (by decide)) _, h.vlt, ⟨h.b2.1, by have h1 := hg.size; have h2 := h.b2.2; simp only [World.setCell, Array.size_modify]; omega⟩, h.ge⟩
theorem RPS.appO (h : RPS w0 w b2 p S O vh vk vc vo s code outs) {l : List Int} (hg : w.grownBy w' vo.ownBlock) (ho : OwnO w' b2 v' l) (hv : ∀ k, vh.ownBlock = some k → k < b2) : RPS w0 (w'.setCell ⟨O, 3, none⟩ v') b2 p S O vh vk vc v' s code l := by
  have n1 := own_block_ne h.oo h.box (by decide)
  have n2 := own_block_ne h.oo h.st.box (by decide)
  have bx : Box4 w' O _ _ _ _ _ := (hg.block O h.box.lt (fun e => n1 e.symm)).trans h.box
  have sb : Box3 w' S _ _ _ _ := (hg.block S h.st.box.lt (fun e => n2 e.symm)).trans h.st.box
  have hh := World.ownsRow.kept h.st.held hg (by
    cases e : vh.ownBlock with
    | none => exact .inl rfl
    | some k =>
      refine .inr fun e2 => ?_
      have h1 := hv k e
      have h2 := (World.ownsRow.lt h.oo k e2.symm).1
      omega)
  have hk := World.ownsRow.kept h.st.keys hg (rows_ne h.st.keys h.oo (by decide))
  have hcc := World.ownsRow.kept h.oc hg (rows_ne h.oc h.oo (by decide))
  have nOS : O ≠ S := fun e => absurd (cells_type (e ▸ h.box : w.heap[S]? = _) h.st.box) (by decide)
  refine ⟨(h.bel.grown hg h.bel.size (fun k hk => Nat.le_trans h.b2.1 (World.ownsRow.lt h.oo k hk).1)).setCell (p := ⟨O, 3, none⟩) h.ge _, ⟨sb.other nOS _, own_set_ne hh (own_block_ne hh bx (by decide)) _, own_set_ne hk (own_block_ne hk bx (by decide)) _, h.st.ge⟩, bx.set3 _, own_set_ne hcc (own_block_ne hcc bx (by decide)) _, own_set_ne ho (own_block_ne ho bx (by decide)) _, .inl hv, ⟨h.b2.1, by have h1 := hg.size; have h2 := h.b2.2; simp only [World.setCell, Array.size_modify]; omega⟩, h.ge⟩
end
theorem set_aft {s : ShS} {n : Int} {i : Ins} {t : Nat} {u : Int} (ht : t < s.held.length) (h : ot s.held t = u) : (s.aft n i).set t u = s.aft n i := by
  unfold ShS.set
  rw [aft_held, Int.toNat_natCast, set_ot ht h, ← aft_held s n i]
theorem RPS.setH {w0 w : World} {b2 : Nat} {p : Pg} {S O g cap m : Nat} {vk vc : Value} {s : ShS} {code : List Ins} (h : RPS w0 w b2 p S O (.slice (some ⟨g, 0, none⟩) m cap) vk vc (.slice none 0 0) s code []) (t v : Int) : RPS w0 (w.setCell ⟨g, t.toNat, none⟩ (.int .i64 v)) b2 p S O (.slice (some ⟨g, 0, none⟩) m cap) vk vc (.slice none 0 0) (s.set t v) code [] := by
  have n1 : g ≠ O := by
    intro e
    subst e
    exact own_block_ne h.st.held h.box (by decide) rfl
  have n2 : vc.ownBlock ≠ some g := by
    rcases rows_ne h.oc h.st.held (by decide) with e | e
    · rw [e]; simp
    · exact e
  exact ⟨h.bel.setCell (p := ⟨g, t.toNat, none⟩) (World.ownsRow.lt h.st.held g rfl).1 _, h.st.setHeld t v, h.box.set_ne n1 _, own_set_ne h.oc n2 _, World.ownsRow_nil _ _ _ _, .inr rfl, ⟨h.b2.1, by have := h.b2.2; simpa [World.setCell] using this⟩, h.ge⟩
theorem RPS.rebase {w0 w : World} {b2 : Nat} {p : Pg} {S O : Nat} {vh vk vc : Value} {s : ShS} {code : List Ins} (h : RPS w0 w b2 p S O vh vk vc (.slice none 0 0) s code []) : RPS w0 w w.heap.size p S O vh vk vc (.slice none 0 0) s code [] :=
  ⟨h.bel, h.st, h.box, h.oc, World.ownsRow_nil _ _ _ _, .inl (fun k hk => (World.ownsRow.lt h.st.held k hk).2), ⟨h.bel.size, Nat.le_refl _⟩, h.ge⟩
set_option maxRecDepth 100000 in
set_option maxHeartbeats 8000000 in
theorem rspass_any (v : Value) (p : Pg) (w : World) (h : PgAt w v p) (hr : rightB p = true) :
    Calls Try.prog 14 #[v] w fun e w' => (∃ v, e = .returned v ∧ OwnPg w' w.heap.size v (shP p)) ∧ Below w.heap.size w w' := by
  have HP := hide h
  obtain ⟨ca, cc, oa, oc, rfl, hc, ho⟩ := h
  have KC := hide hc
  have KO := hide ho
  have HRR := hide hr
  clear hc ho hr
  go_enter Try.func14, Try.ntmps14
  go_upto_region 1 with fail
  have b1 := below_alloc w (.cells #[.int .i64 p.ins, .int .i64 p.regs, .slice ca p.code.length cc, .slice oa p.outs.length oc] 25)
  have b2 := below_alloc (w.alloc (.cells #[.int .i64 p.ins, .int .i64 p.regs, .slice ca p.code.length cc, .slice oa p.outs.length oc] 25)) (.cells #[.int .i64 0, .int .i64 0, .slice none 0 0, .slice none 0 0] 25)
  have PX := hide ((Box4.new w 25 (.int .i64 p.ins) (.int .i64 p.regs) (.slice ca p.code.length cc) (.slice oa p.outs.length oc)).step b2)
  have RX := hide (Box4.new (w.alloc (.cells #[.int .i64 p.ins, .int .i64 p.regs, .slice ca p.code.length cc, .slice oa p.outs.length oc] 25)) 25 (.int .i64 0) (.int .i64 0) (.slice none 0 0) (.slice none 0 0))
  rw [World.size_alloc] at RX
  replace KC := hide ((KC.out.below b1).below b2)
  replace KO := hide ((KO.out.below b1).below b2)
  replace HP := hide ((HP.out.below b1).below b2)
  have HB := hide (b1.trans (b2.mono b1.size))
  clear b1 b2
  generalize ((w.alloc (.cells #[.int .i64 p.ins, .int .i64 p.regs, .slice ca p.code.length cc, .slice oa p.outs.length oc] 25)).alloc (.cells #[.int .i64 0, .int .i64 0, .slice none 0 0, .slice none 0 0] 25)) = w1 at *
  obtain ⟨B0, hB⟩ : ∃ B, B = w.heap.size := ⟨_, rfl⟩
  have HZ := hide hB
  rw [← hB] at PX RX ⊢
  clear hB
  obtain ⟨R, hR⟩ : ∃ R, R = B0 + 1 := ⟨_, rfl⟩
  have HR := hide hR
  rw [← hR] at RX ⊢
  clear hR
  have c0 := PX.out.cell0
  have c1 := PX.out.cell1
  have c2 := PX.out.cell2
  have c3 := PX.out.cell3
  have SO := hide (fun k hk => runS_ok HRR.out k hk)
  have LN := hide (show p.code.length ≤ 16384 from (right_parts HRR.out).2.2.2.1)
  have LG := hide (show p.regs ≤ 128 from (right_parts HRR.out).2.2.1)
  have MB := hide ((right_parts HRR.out).2.2.2.2.2.2.2)
  go_wp2_with fail
  refine (rbegin_any _ p _ HP.out HRR.out).mono ?_
  rintro e w2 ⟨⟨S, vh, vk, rfl, hst⟩, hb⟩
  clear c0 c1 c2 c3
  have W0 := hide hb
  have c0 := (PX.out.step W0.out).cell0
  have c1 := (PX.out.step W0.out).cell1
  have ST := hide hst
  clear hst hb
  go_upto_region 3 with fail
  have hb := below_alloc w2 (.cells #[.int .i64 p.ins, .int .i64 p.regs, .slice none 0 0, .slice none 0 0] 25)
  have RP : Hid (RPS w1 (w2.alloc (.cells #[.int .i64 p.ins, .int .i64 p.regs, .slice none 0 0, .slice none 0 0] 25)) w1.heap.size p S w2.heap.size vh vk (.slice none 0 0) (.slice none 0 0) (runS p 0) (codS p 0) []) := hide ⟨W0.out.trans (hb.mono W0.out.size), ST.out.below hb, Box4.new _ _ _ _ _ _, World.ownsRow_nil _ _ _ _, World.ownsRow_nil _ _ _ _, .inr rfl, ⟨Nat.le_refl _, Nat.le_trans W0.out.size hb.size⟩, W0.out.size⟩
  clear hb c0 c1 ST W0
  generalize w2.alloc (.cells #[.int .i64 p.ins, .int .i64 p.regs, .slice none 0 0, .slice none 0 0] 25) = w3 at *
  generalize w2.heap.size = O at *
  go_wp2
  go_loopw [5, 6, 7, 8, 9, 10, 11] (fun kv _ _ _ _ _ _ wr => ∃ (k : Nat) (vk vc : Value), k ≤ p.code.length ∧ kv = .int .i64 k ∧ RPS w1 wr w1.heap.size p S O vh vk vc (.slice none 0 0) (runS p k) (codS p k) []) (fun kv _ _ _ _ _ _ _ => p.code.length - (intOf kv).toNat)
  case atStart => exact ⟨0, _, _, Nat.zero_le _, rfl, RP.out⟩
  case round =>
    clear RP
    obtain ⟨k, vk, vc, hk, rfl, hrp⟩ := hrel
    have RP := hide hrp
    clear hrp
    obtain ⟨wl, hwl⟩ : ∃ wl, wl = wr := ⟨_, rfl⟩
    subst hwl
    have c2 := (PX.out.step RP.out.bel).cell2
    have hln := LN.out
    by_cases hlt : k < p.code.length
    · have HM := hide (MB.out k hlt)
      have HS := hide (SO.out k hk)
      have HKY := hide (runS_ky p k)
      obtain ⟨b1, o1, rfl, hic⟩ := CodeAt.at (KC.out.below RP.out.bel) hlt
      have EI : Hid (codS p (k + 1) = codS p k ++ (runS p k).put k (cd p.code k) ∧ runS p (k + 1) = (runS p k).go k (cd p.code k)) := hide ⟨rfl, rfl⟩
      generalize hs : runS p k = s at *
      generalize hi : cd p.code k = i at *
      clear hs hi
      obtain ⟨op, tq, a, b, c⟩ := i
      obtain ⟨t, rfl⟩ := Int.eq_ofNat_of_zero_le ((may_iff _ _).1 HM.out).2.1.1
      obtain ⟨x, rfl⟩ := Int.eq_ofNat_of_zero_le ((may_iff _ _).1 HM.out).2.2.1.1
      obtain ⟨y, rfl⟩ := Int.eq_ofNat_of_zero_le ((may_iff _ _).1 HM.out).2.2.2.1.1
      have hx : t < s.held.length ∧ x < s.held.length ∧ y < s.held.length := by have h1 := ((may_iff _ _).1 HM.out).2; have h2 := HS.out.len; dsimp only at h1; omega
      have HX := hide hx
      clear hx
      have i0 := hic.cell0
      have i1 := hic.cell1
      have i2 := hic.cell2
      have i3 := hic.cell3
      have i4 := hic.cell4
      dsimp only at i0 i1 i2 i3 i4
      clear hic
      go_upto_region 7 with fail
      have hb := below_alloc wl (.cells #[.int .i64 op, .int .i64 (t : Int), .int .i64 (x : Int), .int .i64 (y : Int), .int .i64 c] 34)
      have IX : Hid (Box5 (wl.alloc (.cells #[.int .i64 op, .int .i64 (t : Int), .int .i64 (x : Int), .int .i64 (y : Int), .int .i64 c] 34)) wl.heap.size 34 ⟨op, t, x, y, c⟩) := hide (Box5.new wl 34 ⟨op, t, x, y, c⟩)
      have NXO := hide (fun kb hkb => Nat.ne_of_lt (World.ownsRow.lt RP.out.oc kb hkb).2)
      replace RP := hide (RP.out.below hb)
      clear hb i0 i1 i2 i3 i4 c2
      generalize wl.alloc (.cells #[.int .i64 op, .int .i64 (t : Int), .int .i64 (x : Int), .int .i64 (y : Int), .int .i64 c] 34) = w4 at *
      generalize wl.heap.size = X at *
      have k0 := IX.out.cells.cell0
      have k1 := IX.out.cells.cell1
      have k2 := IX.out.cells.cell2
      have k3 := IX.out.cells.cell3
      have k4 := IX.out.cells.cell4
      simp only [Nat.zero_add] at k1 k2 k3 k4
      go_wp2_with fail
      refine (rreckon_any p k ⟨op, t, x, y, c⟩ _ w1.heap.size S vh vk s RP.out.st HS.out HKY.out HRR.out HM.out (by have := LN.out; omega) RP.out.bel.size).mono ?_
      rintro e w5 ⟨rfl, ⟨vk', hst⟩, hsr⟩
      replace IX : Hid (Box5 w5 X 34 ⟨op, t, x, y, c⟩) := hide (hsr.cells RP.out.st IX.out (by decide) (by decide))
      replace RP := hide (RP.out.reck hsr hst)
      clear hst hsr k0 k1 k2 k3 k4
      have HR1 := hide (HS.out.reck HM.out)
      generalize hv : (s.val (k : Int) ⟨op, t, x, y, c⟩).1 = u at *
      have HU := hide hv
      clear hv
      generalize (if op = 1 then (-1 : Int) else (s.val (k : Int) ⟨op, t, x, y, c⟩).2) = u2
      have HH := hide (aft_held s k ⟨op, t, x, y, c⟩)
      obtain ⟨va, vcap, hva⟩ := OwnO.val RP.out.st.held
      rw [HH.out] at hva
      subst hva
      obtain ⟨g, hg, _, _⟩ := OwnO.atI (k := t) RP.out.st.held (by rw [HH.out]; exact HX.out.1)
      subst hg
      have RC : Hid (∀ j, j < s.held.length → ∀ w', Below w5.heap.size w5 w' → w'.cell? ⟨g, j, none⟩ = some (.int .i64 (ot s.held j))) := hide (fun j hj w' hb => by
        obtain ⟨g', e1, h1, _⟩ := OwnO.atI (k := j) (RP.out.st.below hb).held (by rw [HH.out]; exact hj)
        cases e1
        rw [HH.out] at h1
        exact h1)
      have hT := HX.out.1
      have hXx := HX.out.2.1
      have hY := HX.out.2.2
      have HA := hide (fun w' (hb : Below w5.heap.size w5 w') (z : Int) => holder_any z w' w1.heap.size S _ _ _ (RP.out.st.below hb) (by rw [HH.out]; have := HS.out.len; have := LG.out; omega))
      go_upto_region 8 with fail
      refine wp_calm (fun w' => Below w5.heap.size w5 w') (fun _ => true) 11 #[false, false, false, false, false, false, false, false, false, false, false] (by kernel_rfl) rfl rfl ?_
      have HF := hide ((Below.refl w5.heap.size w5).drew)
      generalize w5.drew = w5d at *
      refine Calm.takeL 11 (i := 0) (v := ?_) (a' := ?_) (l' := #[true, false, false, false, false, false, false, false, false, false, false]) (d := some 39) (by kernel_rfl) rfl (by kernel_rfl) (by kernel_rfl) (by kernel_rfl) (by kernel_rfl) (fun _ _ _ h => h) HF.out rfl ?_ rfl rfl ?_ ?_
      rotate_left
      · intro w' hF; clear hF; go_simp; try rfl
      rotate_left
      · simp only [Act.put]; exact rfl
      refine Calm.takeL 11 (i := 1) (v := ?_) (a' := ?_) (l' := #[true, true, false, false, false, false, false, false, false, false, false]) (d := some 40) (by kernel_rfl) rfl (by kernel_rfl) (by kernel_rfl) (by kernel_rfl) (by kernel_rfl) (fun _ _ _ h => h) HF.out rfl ?_ rfl rfl ?_ ?_
      rotate_left
      · intro w' hF; clear hF; go_simp; try rfl
      rotate_left
      · simp only [Act.put]; exact rfl
      refine Calm.takeL 11 (i := 2) (v := ?_) (a' := ?_) (l' := #[true, true, true, false, false, false, false, false, false, false, false]) (d := some 41) (by kernel_rfl) rfl (by kernel_rfl) (by kernel_rfl) (by kernel_rfl) (by kernel_rfl) (fun _ _ _ h => h) HF.out rfl ?_ rfl rfl ?_ ?_
      rotate_left
      · intro w' hF; clear hF; go_simp; try rfl
      rotate_left
      · simp only [Act.put]; exact rfl
      refine Calm.takeL 11 (i := 3) (v := ?_) (a' := ?_) (l' := #[true, true, true, true, false, false, false, false, false, false, false]) (d := some 42) (by kernel_rfl) rfl (by kernel_rfl) (by kernel_rfl) (by kernel_rfl) (by kernel_rfl) (fun _ _ _ h => h) HF.out rfl ?_ rfl rfl ?_ ?_
      rotate_left
      · intro w' hF; clear hF; go_simp; try rfl
      rotate_left
      · simp only [Act.put]; exact rfl
      refine Calm.takeL 11 (i := 4) (v := ?_) (a' := ?_) (l' := #[true, true, true, true, true, false, false, false, false, false, false]) (d := some 43) (by kernel_rfl) rfl (by kernel_rfl) (by kernel_rfl) (by kernel_rfl) (by kernel_rfl) (fun _ _ _ h => h) HF.out rfl ?_ rfl rfl ?_ ?_
      rotate_left
      · intro w' hF; have c0 := (RP.out.st.below hF).box.cell0; have r1 := RC.out x (by assumption) _ hF; have kk := (IX.out.step hF).cells.cell2; simp only [Nat.zero_add] at kk; clear hF; go_simp; try rfl
      rotate_left
      · simp only [Act.put]; exact rfl
      refine Calm.takeL 11 (i := 5) (v := ?_) (a' := ?_) (l' := #[true, true, true, true, true, true, false, false, false, false, false]) (d := some 44) (by kernel_rfl) rfl (by kernel_rfl) (by kernel_rfl) (by kernel_rfl) (by kernel_rfl) (fun _ _ _ h => h) HF.out rfl ?_ rfl rfl ?_ ?_
      rotate_left
      · intro w' hF; clear hF; go_simp; try rfl
      rotate_left
      · simp only [Act.put]; exact rfl
      refine Calm.takeL 11 (i := 6) (v := ?_) (a' := ?_) (l' := #[true, true, true, true, true, true, true, false, false, false, false]) (d := some 45) (by kernel_rfl) rfl (by kernel_rfl) (by kernel_rfl) (by kernel_rfl) (by kernel_rfl) (fun _ _ _ h => h) HF.out rfl ?_ rfl rfl ?_ ?_
      rotate_left
      · intro w' hF; have c0 := (RP.out.st.below hF).box.cell0; have r1 := RC.out x (by assumption) _ hF; have kk := (IX.out.step hF).cells.cell2; simp only [Nat.zero_add] at kk; clear hF; go_simp; try rfl
      rotate_left
      · simp only [Act.put]; exact rfl
      refine Calm.takeL 11 (i := 7) (v := ?_) (a' := ?_) (l' := #[true, true, true, true, true, true, true, true, false, false, false]) (d := some 46) (by kernel_rfl) rfl (by kernel_rfl) (by kernel_rfl) (by kernel_rfl) (by kernel_rfl) (fun _ _ _ h => h) HF.out rfl ?_ rfl rfl ?_ ?_
      rotate_left
      · intro w' hF; clear hF; go_simp; try rfl
      rotate_left
      · simp only [Act.put]; exact rfl
      refine Calm.takeL 11 (i := 8) (v := ?_) (a' := ?_) (l' := #[true, true, true, true, true, true, true, true, true, false, false]) (d := some 47) (by kernel_rfl) rfl (by kernel_rfl) (by kernel_rfl) (by kernel_rfl) (by kernel_rfl) (fun _ _ _ h => h) HF.out rfl ?_ rfl rfl ?_ ?_
      rotate_left
      · intro w' hF; have c0 := (RP.out.st.below hF).box.cell0; have r1 := RC.out x (by assumption) _ hF; have kk := (IX.out.step hF).cells.cell2; simp only [Nat.zero_add] at kk; clear hF; go_simp; try rfl
      rotate_left
      · simp only [Act.put]; exact rfl
      refine Calm.one (i := 9) (l' := #[true, true, true, true, true, true, true, true, true, true, false]) (by kernel_rfl) rfl rfl rfl fun K hK => ?_
      go_simp
      have hcall := HA.out w5d HF.out (ot s.held x)
      rw [HH.out] at hcall
      refine hcall.mono ?_
      clear hcall
      rintro e w6 ⟨rfl, hw⟩
      have hb : Below w5d.heap.size w5d w6 := by rw [hw]; exact Below.refl _ _
      clear hw
      have HF' := hide (HF.out.trans ((hb).mono HF.out.size))
      refine hK _ _ (fun _ => HF'.out) ?_
      clear hK K HF hb
      have HF := hide HF'.out
      clear HF'
      refine Calm.takeL 11 (i := 10) (v := ?_) (a' := ?_) (l' := #[true, true, true, true, true, true, true, true, true, true, true]) (d := some 9) (by kernel_rfl) rfl (by kernel_rfl) (by kernel_rfl) (by kernel_rfl) (by kernel_rfl) (fun _ _ _ h => h) HF.out rfl ?_ rfl rfl ?_ ?_
      rotate_left
      · intro w' hF; clear hF; go_simp; try rfl
      rotate_left
      · simp only [Act.put]; exact rfl
      refine Calm.done (by kernel_rfl) ?_
      go_upto_region 10 with fail
      go_cut [56] from 49 to 112 (fun pb wx => pb = .bool (twoB op) ∧ wx = w6)
      case first =>
        have k0 := (IX.out.step HF.out).cells.cell0
        by_cases h3 : op = 3
        · subst h3
          go_wp2
          go_meet
          case rel => exact ⟨rfl, rfl⟩
        · by_cases h4 : op = 4
          · subst h4
            go_wp2
            go_meet
            case rel => exact ⟨rfl, rfl⟩
          · go_wp2
            go_meet
            case rel => exact ⟨by unfold twoB; simp [h3, h4], rfl⟩
      case rest =>
        obtain ⟨rfl, hwc⟩ := hcut
        have HF0 : Hid (Below w5.heap.size w5 wc) := hide (by rw [hwc]; exact HF.out)
        clear hwc HF
        have HF := HF0
        clear HF0
        go_upto_if 56 with fail
        go_cut [10, 56] from 57 to 112 (fun pz pb wx => pz = .int .i64 (if twoB op = true then hold s.held (ot s.held y) else 0) ∧ Below w5.heap.size w5 wx)
        case first =>
          obtain ⟨w6, hw6⟩ : ∃ w6, w6 = wc := ⟨_, rfl⟩
          subst hw6
          cases htw : twoB op with
          | true =>
            go_upto_region 11 with fail
            refine wp_calm (fun w' => Below w5.heap.size w5 w') (fun _ => true) 11 #[false, false, false, false, false, false, false, false, false, false, false] (by kernel_rfl) rfl rfl ?_
            have HF := hide (HF.out.drew)
            generalize w6.drew = w6d at *
            refine Calm.takeL 11 (i := 0) (v := ?_) (a' := ?_) (l' := #[true, false, false, false, false, false, false, false, false, false, false]) (d := some 57) (by kernel_rfl) rfl (by kernel_rfl) (by kernel_rfl) (by kernel_rfl) (by kernel_rfl) (fun _ _ _ h => h) HF.out rfl ?_ rfl rfl ?_ ?_
            rotate_left
            · intro w' hF; clear hF; go_simp; try rfl
            rotate_left
            · simp only [Act.put]; exact rfl
            refine Calm.takeL 11 (i := 1) (v := ?_) (a' := ?_) (l' := #[true, true, false, false, false, false, false, false, false, false, false]) (d := some 58) (by kernel_rfl) rfl (by kernel_rfl) (by kernel_rfl) (by kernel_rfl) (by kernel_rfl) (fun _ _ _ h => h) HF.out rfl ?_ rfl rfl ?_ ?_
            rotate_left
            · intro w' hF; clear hF; go_simp; try rfl
            rotate_left
            · simp only [Act.put]; exact rfl
            refine Calm.takeL 11 (i := 2) (v := ?_) (a' := ?_) (l' := #[true, true, true, false, false, false, false, false, false, false, false]) (d := some 59) (by kernel_rfl) rfl (by kernel_rfl) (by kernel_rfl) (by kernel_rfl) (by kernel_rfl) (fun _ _ _ h => h) HF.out rfl ?_ rfl rfl ?_ ?_
            rotate_left
            · intro w' hF; clear hF; go_simp; try rfl
            rotate_left
            · simp only [Act.put]; exact rfl
            refine Calm.takeL 11 (i := 3) (v := ?_) (a' := ?_) (l' := #[true, true, true, true, false, false, false, false, false, false, false]) (d := some 60) (by kernel_rfl) rfl (by kernel_rfl) (by kernel_rfl) (by kernel_rfl) (by kernel_rfl) (fun _ _ _ h => h) HF.out rfl ?_ rfl rfl ?_ ?_
            rotate_left
            · intro w' hF; clear hF; go_simp; try rfl
            rotate_left
            · simp only [Act.put]; exact rfl
            refine Calm.takeL 11 (i := 4) (v := ?_) (a' := ?_) (l' := #[true, true, true, true, true, false, false, false, false, false, false]) (d := some 61) (by kernel_rfl) rfl (by kernel_rfl) (by kernel_rfl) (by kernel_rfl) (by kernel_rfl) (fun _ _ _ h => h) HF.out rfl ?_ rfl rfl ?_ ?_
            rotate_left
            · intro w' hF; have c0 := (RP.out.st.below hF).box.cell0; have r1 := RC.out y (by assumption) _ hF; have kk := (IX.out.step hF).cells.cell3; simp only [Nat.zero_add] at kk; clear hF; go_simp; try rfl
            rotate_left
            · simp only [Act.put]; exact rfl
            refine Calm.takeL 11 (i := 5) (v := ?_) (a' := ?_) (l' := #[true, true, true, true, true, true, false, false, false, false, false]) (d := some 62) (by kernel_rfl) rfl (by kernel_rfl) (by kernel_rfl) (by kernel_rfl) (by kernel_rfl) (fun _ _ _ h => h) HF.out rfl ?_ rfl rfl ?_ ?_
            rotate_left
            · intro w' hF; clear hF; go_simp; try rfl
            rotate_left
            · simp only [Act.put]; exact rfl
            refine Calm.takeL 11 (i := 6) (v := ?_) (a' := ?_) (l' := #[true, true, true, true, true, true, true, false, false, false, false]) (d := some 63) (by kernel_rfl) rfl (by kernel_rfl) (by kernel_rfl) (by kernel_rfl) (by kernel_rfl) (fun _ _ _ h => h) HF.out rfl ?_ rfl rfl ?_ ?_
            rotate_left
            · intro w' hF; have c0 := (RP.out.st.below hF).box.cell0; have r1 := RC.out y (by assumption) _ hF; have kk := (IX.out.step hF).cells.cell3; simp only [Nat.zero_add] at kk; clear hF; go_simp; try rfl
            rotate_left
            · simp only [Act.put]; exact rfl
            refine Calm.takeL 11 (i := 7) (v := ?_) (a' := ?_) (l' := #[true, true, true, true, true, true, true, true, false, false, false]) (d := some 64) (by kernel_rfl) rfl (by kernel_rfl) (by kernel_rfl) (by kernel_rfl) (by kernel_rfl) (fun _ _ _ h => h) HF.out rfl ?_ rfl rfl ?_ ?_
            rotate_left
            · intro w' hF; clear hF; go_simp; try rfl
            rotate_left
            · simp only [Act.put]; exact rfl
            refine Calm.takeL 11 (i := 8) (v := ?_) (a' := ?_) (l' := #[true, true, true, true, true, true, true, true, true, false, false]) (d := some 65) (by kernel_rfl) rfl (by kernel_rfl) (by kernel_rfl) (by kernel_rfl) (by kernel_rfl) (fun _ _ _ h => h) HF.out rfl ?_ rfl rfl ?_ ?_
            rotate_left
            · intro w' hF; have c0 := (RP.out.st.below hF).box.cell0; have r1 := RC.out y (by assumption) _ hF; have kk := (IX.out.step hF).cells.cell3; simp only [Nat.zero_add] at kk; clear hF; go_simp; try rfl
            rotate_left
            · simp only [Act.put]; exact rfl
            refine Calm.one (i := 9) (l' := #[true, true, true, true, true, true, true, true, true, true, false]) (by kernel_rfl) rfl rfl rfl fun K hK => ?_
            go_simp
            have hcall := HA.out w6d HF.out (ot s.held y)
            rw [HH.out] at hcall
            refine hcall.mono ?_
            clear hcall
            rintro e w7 ⟨rfl, hw⟩
            have hb : Below w6d.heap.size w6d w7 := by rw [hw]; exact Below.refl _ _
            clear hw
            have HF' := hide (HF.out.trans ((hb).mono HF.out.size))
            refine hK _ _ (fun _ => HF'.out) ?_
            clear hK K HF hb
            have HF := hide HF'.out
            clear HF'
            refine Calm.takeL 11 (i := 10) (v := ?_) (a' := ?_) (l' := #[true, true, true, true, true, true, true, true, true, true, true]) (d := some 10) (by kernel_rfl) rfl (by kernel_rfl) (by kernel_rfl) (by kernel_rfl) (by kernel_rfl) (fun _ _ _ h => h) HF.out rfl ?_ rfl rfl ?_ ?_
            rotate_left
            · intro w' hF; clear hF; go_simp; try rfl
            rotate_left
            · simp only [Act.put]; exact rfl
            refine Calm.done (by kernel_rfl) ?_
            go_wp2
            go_meet
            case rel =>
              refine ⟨?_, HF.out⟩
              first | rfl | (rw [htw, if_pos rfl])
          | false =>
            go_wp2
            go_meet
            case rel =>
              refine ⟨?_, HF.out⟩
              first | rfl | (rw [htw, if_neg (by decide)])
        case rest =>
          obtain ⟨rfl, hb8⟩ := hcut
          replace HF := hide hb8
          clear hb8
          generalize hwc : wc = w8 at *
          clear hwc
          obtain ⟨pz, hpz⟩ : ∃ z, z = (if twoB op = true then hold s.held (ot s.held y) else 0) := ⟨_, rfl⟩
          rw [← hpz]
          have PZ := hide hpz
          clear hpz
          go_wp2_with fail
          have hcall := HA.out w8 HF.out u
          rw [HH.out] at hcall
          refine hcall.mono ?_
          clear hcall
          rintro e w8x ⟨rfl, hw⟩
          rw [hw]
          clear hw w8x
          go_upto_region 13 with fail
          obtain ⟨h1, hh1⟩ : ∃ z, z = hold s.held u := ⟨_, rfl⟩
          rw [← hh1]
          have HH1 := hide hh1
          clear hh1
          obtain ⟨h2, hh2⟩ : ∃ z, z = hold s.held (ot s.held x) := ⟨_, rfl⟩
          rw [← hh2]
          have HH2 := hide hh2
          clear hh2
          have c0 := (RP.out.st.below HF.out).box.cell0
          have r1 := RC.out t hT w8 HF.out
          have k1 := (IX.out.step HF.out).cells.cell1
          simp only [Nat.zero_add] at k1
          have lS := (RP.out.st.below HF.out).box.lt
          have lX := (IX.out.step HF.out).lt
          by_cases he : ot s.held t = u
          · rw [he] at r1
            have HE := hide he
            clear he
            go_region
            clear c0 r1 k1 lS lX
            go_wp2
            go_roundw
            case rel =>
              refine ⟨k + 1, vk', vc, by omega, by go_num, ?_⟩
              rw [EI.out.1, EI.out.2]
              have hp : s.put (k : Int) ⟨op, t, x, y, c⟩ = [] := by unfold ShS.put; rw [HU.out]; exact if_pos HE.out
              have hg2 : s.go (k : Int) ⟨op, t, x, y, c⟩ = s.aft (k : Int) ⟨op, t, x, y, c⟩ := by unfold ShS.go; rw [HU.out]; exact set_aft hT HE.out
              rw [hp, hg2, List.append_nil]
              exact (RP.out.below HF.out).drew
            case measure => simp [intOf]; omega
          · have HE := hide he
            have he' : (ot s.held t == u) = false := by simpa using he
            generalize ot s.held t = z at r1 he' he
            go_region
            clear c0 r1 k1 lS lX
            have HF1 := hide HF.out.drew
            clear HF
            have HF := HF1
            clear HF1
            obtain ⟨w8e, hw8⟩ : ∃ z, z = w8.drew := ⟨_, rfl⟩
            rw [← hw8] at HF ⊢
            clear hw8
            skip
            by_cases hr : 0 ≤ h1
            · have c2 := (RP.out.below HF.out).box.cell2
              have k0 := (IX.out.step HF.out).cells.cell0
              have k1 := (IX.out.step HF.out).cells.cell1
              have k4 := (IX.out.step HF.out).cells.cell4
              simp only [Nat.zero_add] at k1 k4
              have RP2 := hide ((RP.out.below HF.out).below (below_alloc w8e (.cells #[.int .i64 1, .int .i64 (t : Int), .int .i64 h1, .int .i64 0, .int .i64 0] 34)))
              have IX2 := hide ((IX.out.step HF.out).step (below_alloc w8e (.cells #[.int .i64 1, .int .i64 (t : Int), .int .i64 h1, .int .i64 0, .int .i64 0] 34)))
              have CC : Hid (CodeAt (w8e.alloc (.cells #[.int .i64 1, .int .i64 (t : Int), .int .i64 h1, .int .i64 0, .int .i64 0] 34)) (.slice (some ⟨w8e.heap.size, 0, none⟩) 1 1) [⟨1, t, h1, 0, 0⟩]) := hide (code1 w8e ⟨1, t, h1, 0, 0⟩ rfl)
              have o2 := RP2.out.box.cell2
              have lO := (RP.out.below HF.out).box.lt
              have lX := (IX.out.step HF.out).lt
              go_wp2_with (at_builtin; refine app_code rfl _ _ rfl w1.heap.size _ (codS p k) rfl RP2.out.oc _ [⟨1, t, h1, 0, 0⟩] rfl CC.out (by have h1 := LN.out; have h2 := codS_length p k; simp only [List.length_singleton]; omega) RP2.out.bel.size ?_)
              intro v' w9 hown hgrow
              obtain ⟨vb, vcb, hvb⟩ := own_slice hown
              rw [List.length_append, List.length_singleton] at hvb
              subst hvb
              have OX : Hid (Box4 w9 O 25 (.int .i64 p.ins) (.int .i64 p.regs) vc (.slice none 0 0)) := hide ((hgrow.block O RP2.out.box.lt (fun e => own_block_ne RP2.out.oc RP2.out.box (by decide) e.symm)).trans RP2.out.box)
              have IX9 : Hid (Box5 w9 X 34 ⟨op, t, x, y, c⟩) := hide ((hgrow.block X IX2.out.lt (fun e => NXO.out X e.symm rfl)).trans IX2.out)
              have RP9 := hide (RP2.out.app hgrow hown)
              have NOX : O ≠ X := fun e => absurd (cells_type (e ▸ OX.out : w9.heap[X]? = _) IX9.out) (by decide)
              replace IX9 := hide (IX9.out.set_ne (C := O) (o := 2) NOX (.slice vb ((codS p k).length + 1) vcb))
              clear c2 k0 k1 k4 o2 lO lX hown hgrow CC RP2 IX2
              have o2 := OX.out.cell2
              have of2 := OX.out.free 2
              go_upto_region 17 with fail
              clear o2 of2 OX
              generalize w9.setCell ⟨O, 2, none⟩ (.slice vb ((codS p k).length + 1) vcb) = wA at *
              have c0 := RP9.out.st.box.cell0
              have k1 := IX9.out.cells.cell1
              simp only [Nat.zero_add] at k1
              obtain ⟨g', hg', r1, hf⟩ := OwnO.atI (k := t) RP9.out.st.held (by rw [HH.out]; exact hT)
              cases hg'
              go_region
              have RPZ := hide (RP9.out.setH t u).drew
              rw [Int.toNat_natCast] at RPZ
              clear c0 k1 r1 hf RP9 IX9
              generalize (wA.setCell ⟨g, t, none⟩ (.int .i64 u)).drew = wB at *
              go_wp2
              go_roundw
              case rel =>
                refine ⟨k + 1, vk', .slice vb ((codS p k).length + 1) vcb, by omega, by go_num, ?_⟩
                rw [EI.out.1, EI.out.2]
                have hp : s.put (k : Int) ⟨op, t, x, y, c⟩ = [⟨1, t, h1, 0, 0⟩] := by
                  unfold ShS.put
                  rw [HU.out]
                  refine (if_neg HE.out).trans ?_
                  rw [show shar s.held ⟨op, t, x, y, c⟩ u = ⟨1, t, h1, 0, 0⟩ from by unfold shar; rw [← HH1.out, if_pos hr]]
                have hg2 : s.go (k : Int) ⟨op, t, x, y, c⟩ = (s.aft (k : Int) ⟨op, t, x, y, c⟩).set t u := by unfold ShS.go; rw [HU.out]
                rw [hp, hg2]
                exact RPZ.out
              case measure => simp [intOf]; omega
            · have hr2 : h1 < 0 := by omega
              have c2 := (RP.out.below HF.out).box.cell2
              have k0 := (IX.out.step HF.out).cells.cell0
              have k1 := (IX.out.step HF.out).cells.cell1
              have k4 := (IX.out.step HF.out).cells.cell4
              simp only [Nat.zero_add] at k1 k4
              have RP2 := hide ((RP.out.below HF.out).below (below_alloc w8e (.cells #[.int .i64 op, .int .i64 (t : Int), .int .i64 h2, .int .i64 pz, .int .i64 c] 34)))
              have IX2 := hide ((IX.out.step HF.out).step (below_alloc w8e (.cells #[.int .i64 op, .int .i64 (t : Int), .int .i64 h2, .int .i64 pz, .int .i64 c] 34)))
              have CC : Hid (CodeAt (w8e.alloc (.cells #[.int .i64 op, .int .i64 (t : Int), .int .i64 h2, .int .i64 pz, .int .i64 c] 34)) (.slice (some ⟨w8e.heap.size, 0, none⟩) 1 1) [⟨op, t, h2, pz, c⟩]) := hide (code1 w8e ⟨op, t, h2, pz, c⟩ rfl)
              have o2 := RP2.out.box.cell2
              have lO := (RP.out.below HF.out).box.lt
              have lX := (IX.out.step HF.out).lt
              go_wp2_with (at_builtin; refine app_code rfl _ _ rfl w1.heap.size _ (codS p k) rfl RP2.out.oc _ [⟨op, t, h2, pz, c⟩] rfl CC.out (by have h1 := LN.out; have h2 := codS_length p k; simp only [List.length_singleton]; omega) RP2.out.bel.size ?_)
              intro v' w9 hown hgrow
              obtain ⟨vb, vcb, hvb⟩ := own_slice hown
              rw [List.length_append, List.length_singleton] at hvb
              subst hvb
              have OX : Hid (Box4 w9 O 25 (.int .i64 p.ins) (.int .i64 p.regs) vc (.slice none 0 0)) := hide ((hgrow.block O RP2.out.box.lt (fun e => own_block_ne RP2.out.oc RP2.out.box (by decide) e.symm)).trans RP2.out.box)
              have IX9 : Hid (Box5 w9 X 34 ⟨op, t, x, y, c⟩) := hide ((hgrow.block X IX2.out.lt (fun e => NXO.out X e.symm rfl)).trans IX2.out)
              have RP9 := hide (RP2.out.app hgrow hown)
              have NOX : O ≠ X := fun e => absurd (cells_type (e ▸ OX.out : w9.heap[X]? = _) IX9.out) (by decide)
              replace IX9 := hide (IX9.out.set_ne (C := O) (o := 2) NOX (.slice vb ((codS p k).length + 1) vcb))
              clear c2 k0 k1 k4 o2 lO lX hown hgrow CC RP2 IX2
              have o2 := OX.out.cell2
              have of2 := OX.out.free 2
              go_upto_region 17 with fail
              clear o2 of2 OX
              generalize w9.setCell ⟨O, 2, none⟩ (.slice vb ((codS p k).length + 1) vcb) = wA at *
              have c0 := RP9.out.st.box.cell0
              have k1 := IX9.out.cells.cell1
              simp only [Nat.zero_add] at k1
              obtain ⟨g', hg', r1, hf⟩ := OwnO.atI (k := t) RP9.out.st.held (by rw [HH.out]; exact hT)
              cases hg'
              go_region
              have RPZ := hide (RP9.out.setH t u).drew
              rw [Int.toNat_natCast] at RPZ
              clear c0 k1 r1 hf RP9 IX9
              generalize (wA.setCell ⟨g, t, none⟩ (.int .i64 u)).drew = wB at *
              go_wp2
              go_roundw
              case rel =>
                refine ⟨k + 1, vk', .slice vb ((codS p k).length + 1) vcb, by omega, by go_num, ?_⟩
                rw [EI.out.1, EI.out.2]
                have hp : s.put (k : Int) ⟨op, t, x, y, c⟩ = [⟨op, t, h2, pz, c⟩] := by
                  unfold ShS.put
                  rw [HU.out]
                  refine (if_neg HE.out).trans ?_
                  rw [show shar s.held ⟨op, t, x, y, c⟩ u = ⟨op, t, h2, pz, c⟩ from by unfold shar; rw [← HH1.out, if_neg (by omega)]; dsimp only; rw [Int.toNat_natCast, Int.toNat_natCast, ← HH2.out, ← PZ.out]]
                have hg2 : s.go (k : Int) ⟨op, t, x, y, c⟩ = (s.aft (k : Int) ⟨op, t, x, y, c⟩).set t u := by unfold ShS.go; rw [HU.out]
                rw [hp, hg2]
                exact RPZ.out
              case measure => simp [intOf]; omega
    · have e : k = p.code.length := by omega
      subst e
      clear hlt hk
      have SL := hide (SO.out p.code.length (Nat.le_refl _)).len
      have OB := hide ((right_parts HRR.out).2.2.2.2.2.2.1)
      have ON := hide ((right_parts HRR.out).2.2.2.2.2.1)
      obtain ⟨va, vcap, hva⟩ := OwnO.val RP.out.st.held
      subst hva
      obtain ⟨ga, gcap, hga⟩ := own_slice RP.out.oc
      subst hga
      generalize hsN : runS p p.code.length = sN at *
      have HSN := hide hsN
      clear hsN
      have hl128 : sN.held.length ≤ 128 := by rw [SL.out]; have := LG.out; omega
      have H128 := hide hl128
      clear hl128
      have VL0 : Hid (∀ kq, Value.ownBlock (.slice va sN.held.length vcap) = some kq → kq < wl.heap.size) := hide (fun kq hkq => (World.ownsRow.lt RP.out.st.held kq hkq).2)
      have RQ := hide RP.out.rebase
      have c2b := c2
      clear RP
      have c3 := (PX.out.step RQ.out.bel).cell3
      obtain ⟨wm, hwm⟩ : ∃ wm, wm = wl.heap.size := ⟨_, rfl⟩
      rw [← hwm] at RQ VL0
      clear hwm
      go_wp2
      go_loopw [12] (fun kv wr => ∃ (j : Nat) (vo : Value), j ≤ p.outs.length ∧ kv = .int .i64 j ∧ RPS w1 wr wm p S O (.slice va sN.held.length vcap) vk (.slice ga (codS p p.code.length).length gcap) vo sN (codS p p.code.length) ((p.outs.take j).map (fun r : Int => hold sN.held (ot sN.held r.toNat)))) (fun kv _ => p.outs.length - (intOf kv).toNat)
      case atStart => exact ⟨0, _, Nat.zero_le _, rfl, RQ.out⟩
      case round =>
        clear RQ c3
        obtain ⟨j, vo, hj, rfl, hrq⟩ := hrel
        have RQ := hide hrq
        clear hrq
        obtain ⟨wj, hwj⟩ : ∃ wj, wj = wr := ⟨_, rfl⟩
        subst hwj
        have c3 := (PX.out.step RQ.out.bel).cell3
        have hon := ON.out
        obtain ⟨oa', ocap, hvo⟩ := own_slice RQ.out.oo
        rw [List.length_map, List.length_take, Nat.min_eq_left hj] at hvo
        subst hvo
        by_cases hlt : j < p.outs.length
        · obtain ⟨b1, o1, hoa, c1⟩ := IntsAt.at (KO.out.below RQ.out.bel) hlt
          subst hoa
          obtain ⟨q, hq⟩ := Int.eq_ofNat_of_zero_le (OB.out j hlt).1
          have hql : q < sN.held.length := by have h1 := (OB.out j hlt).2; rw [SL.out]; omega
          have HQ := hide hq
          rw [hq] at c1
          clear hq
          have HQL := hide hql
          have VL : Hid (∀ kq, Value.ownBlock (.slice va sN.held.length vcap) = some kq → kq < wm) := hide (by rcases RQ.out.vlt with h | h; exact h; exact fun kq hkq => VL0.out kq hkq)
          obtain ⟨g, hg, _, _⟩ := OwnO.atI (k := q) RQ.out.st.held hql
          subst hg
          have RC : Hid (∀ w', Below wj.heap.size wj w' → w'.cell? ⟨g, q, none⟩ = some (.int .i64 (ot sN.held q))) := hide (fun w' hb => by obtain ⟨g', e1, h1, _⟩ := OwnO.atI (k := q) (RQ.out.st.below hb).held hql; cases e1; exact h1)
          have OC1 : Hid (∀ w', Below wj.heap.size wj w' → w'.cell? ⟨b1, o1 + j, none⟩ = some (.int .i64 (q : Int))) := hide (fun w' hb => (hb.cell (World.block_lt_of_cell? _ _ c1)).trans c1)
          go_upto_region 21 with fail
          clear c1 c3
          refine wp_calm (fun w' => Below wj.heap.size wj w') (fun j => j != 16 && j != 17 && j != 18) 19 #[false, false, false, false, false, false, false, false, false, false, false, false, false, false, false, false, false, false, false] (by kernel_rfl) rfl rfl ?_
          have HF := hide ((Below.refl wj.heap.size wj).drew)
          generalize wj.drew = wjd at *
          refine Calm.takeL 19 (i := 0) (v := ?_) (a' := ?_) (l' := #[true, false, false, false, false, false, false, false, false, false, false, false, false, false, false, false, false, false, false]) (d := some 120) (by kernel_rfl) rfl (by kernel_rfl) (by kernel_rfl) (by kernel_rfl) (by kernel_rfl) (fun _ _ _ h => h) HF.out rfl ?_ rfl rfl ?_ ?_
          rotate_left
          · intro w' hF; clear hF; go_simp; try rfl
          rotate_left
          · simp only [Act.put]; exact rfl
          refine Calm.takeL 19 (i := 1) (v := ?_) (a' := ?_) (l' := #[true, true, false, false, false, false, false, false, false, false, false, false, false, false, false, false, false, false, false]) (d := some 121) (by kernel_rfl) rfl (by kernel_rfl) (by kernel_rfl) (by kernel_rfl) (by kernel_rfl) (fun _ _ _ h => h) HF.out rfl ?_ rfl rfl ?_ ?_
          rotate_left
          · intro w' hF; have c0 := (RQ.out.below hF).st.box.cell0; have o3 := (RQ.out.below hF).box.cell3; have p3 := (PX.out.step (RQ.out.below hF).bel).cell3; have r1 := RC.out _ hF; have r2 := OC1.out _ hF; have hq2 := HQL.out; clear hF; go_simp; try rfl
          rotate_left
          · simp only [Act.put]; exact rfl
          refine Calm.takeL 19 (i := 2) (v := ?_) (a' := ?_) (l' := #[true, true, true, false, false, false, false, false, false, false, false, false, false, false, false, false, false, false, false]) (d := some 122) (by kernel_rfl) rfl (by kernel_rfl) (by kernel_rfl) (by kernel_rfl) (by kernel_rfl) (fun _ _ _ h => h) HF.out rfl ?_ rfl rfl ?_ ?_
          rotate_left
          · intro w' hF; clear hF; go_simp; try rfl
          rotate_left
          · simp only [Act.put]; exact rfl
          refine Calm.takeL 19 (i := 3) (v := ?_) (a' := ?_) (l' := #[true, true, true, true, false, false, false, false, false, false, false, false, false, false, false, false, false, false, false]) (d := some 123) (by kernel_rfl) rfl (by kernel_rfl) (by kernel_rfl) (by kernel_rfl) (by kernel_rfl) (fun _ _ _ h => h) HF.out rfl ?_ rfl rfl ?_ ?_
          rotate_left
          · intro w' hF; clear hF; go_simp; try rfl
          rotate_left
          · simp only [Act.put]; exact rfl
          refine Calm.takeL 19 (i := 4) (v := ?_) (a' := ?_) (l' := #[true, true, true, true, true, false, false, false, false, false, false, false, false, false, false, false, false, false, false]) (d := some 124) (by kernel_rfl) rfl (by kernel_rfl) (by kernel_rfl) (by kernel_rfl) (by kernel_rfl) (fun _ _ _ h => h) HF.out rfl ?_ rfl rfl ?_ ?_
          rotate_left
          · intro w' hF; clear hF; go_simp; try rfl
          rotate_left
          · simp only [Act.put]; exact rfl
          refine Calm.takeL 19 (i := 5) (v := ?_) (a' := ?_) (l' := #[true, true, true, true, true, true, false, false, false, false, false, false, false, false, false, false, false, false, false]) (d := some 125) (by kernel_rfl) rfl (by kernel_rfl) (by kernel_rfl) (by kernel_rfl) (by kernel_rfl) (fun _ _ _ h => h) HF.out rfl ?_ rfl rfl ?_ ?_
          rotate_left
          · intro w' hF; clear hF; go_simp; try rfl
          rotate_left
          · simp only [Act.put]; exact rfl
          refine Calm.takeL 19 (i := 6) (v := ?_) (a' := ?_) (l' := #[true, true, true, true, true, true, true, false, false, false, false, false, false, false, false, false, false, false, false]) (d := some 126) (by kernel_rfl) rfl (by kernel_rfl) (by kernel_rfl) (by kernel_rfl) (by kernel_rfl) (fun _ _ _ h => h) HF.out rfl ?_ rfl rfl ?_ ?_
          rotate_left
          · intro w' hF; have c0 := (RQ.out.below hF).st.box.cell0; have o3 := (RQ.out.below hF).box.cell3; have p3 := (PX.out.step (RQ.out.below hF).bel).cell3; have r1 := RC.out _ hF; have r2 := OC1.out _ hF; have hq2 := HQL.out; clear hF; go_simp; try rfl
          rotate_left
          · simp only [Act.put]; exact rfl
          refine Calm.takeL 19 (i := 7) (v := ?_) (a' := ?_) (l' := #[true, true, true, true, true, true, true, true, false, false, false, false, false, false, false, false, false, false, false]) (d := some 127) (by kernel_rfl) rfl (by kernel_rfl) (by kernel_rfl) (by kernel_rfl) (by kernel_rfl) (fun _ _ _ h => h) HF.out rfl ?_ rfl rfl ?_ ?_
          rotate_left
          · intro w' hF; clear hF; go_simp; try rfl
          rotate_left
          · simp only [Act.put]; exact rfl
          refine Calm.takeL 19 (i := 8) (v := ?_) (a' := ?_) (l' := #[true, true, true, true, true, true, true, true, true, false, false, false, false, false, false, false, false, false, false]) (d := some 128) (by kernel_rfl) rfl (by kernel_rfl) (by kernel_rfl) (by kernel_rfl) (by kernel_rfl) (fun _ _ _ h => h) HF.out rfl ?_ rfl rfl ?_ ?_
          rotate_left
          · intro w' hF; have c0 := (RQ.out.below hF).st.box.cell0; have o3 := (RQ.out.below hF).box.cell3; have p3 := (PX.out.step (RQ.out.below hF).bel).cell3; have r1 := RC.out _ hF; have r2 := OC1.out _ hF; have hq2 := HQL.out; clear hF; go_simp; try rfl
          rotate_left
          · simp only [Act.put]; exact rfl
          refine Calm.takeL 19 (i := 9) (v := ?_) (a' := ?_) (l' := #[true, true, true, true, true, true, true, true, true, true, false, false, false, false, false, false, false, false, false]) (d := some 129) (by kernel_rfl) rfl (by kernel_rfl) (by kernel_rfl) (by kernel_rfl) (by kernel_rfl) (fun _ _ _ h => h) HF.out rfl ?_ rfl rfl ?_ ?_
          rotate_left
          · intro w' hF; clear hF; go_simp; try rfl
          rotate_left
          · simp only [Act.put]; exact rfl
          refine Calm.takeL 19 (i := 10) (v := ?_) (a' := ?_) (l' := #[true, true, true, true, true, true, true, true, true, true, true, false, false, false, false, false, false, false, false]) (d := some 130) (by kernel_rfl) rfl (by kernel_rfl) (by kernel_rfl) (by kernel_rfl) (by kernel_rfl) (fun _ _ _ h => h) HF.out rfl ?_ rfl rfl ?_ ?_
          rotate_left
          · intro w' hF; clear hF; go_simp; try rfl
          rotate_left
          · simp only [Act.put]; exact rfl
          refine Calm.takeL 19 (i := 11) (v := ?_) (a' := ?_) (l' := #[true, true, true, true, true, true, true, true, true, true, true, true, false, false, false, false, false, false, false]) (d := some 131) (by kernel_rfl) rfl (by kernel_rfl) (by kernel_rfl) (by kernel_rfl) (by kernel_rfl) (fun _ _ _ h => h) HF.out rfl ?_ rfl rfl ?_ ?_
          rotate_left
          · intro w' hF; have c0 := (RQ.out.below hF).st.box.cell0; have o3 := (RQ.out.below hF).box.cell3; have p3 := (PX.out.step (RQ.out.below hF).bel).cell3; have r1 := RC.out _ hF; have r2 := OC1.out _ hF; have hq2 := HQL.out; clear hF; go_simp; try rfl
          rotate_left
          · simp only [Act.put]; exact rfl
          refine Calm.takeL 19 (i := 12) (v := ?_) (a' := ?_) (l' := #[true, true, true, true, true, true, true, true, true, true, true, true, true, false, false, false, false, false, false]) (d := some 132) (by kernel_rfl) rfl (by kernel_rfl) (by kernel_rfl) (by kernel_rfl) (by kernel_rfl) (fun _ _ _ h => h) HF.out rfl ?_ rfl rfl ?_ ?_
          rotate_left
          · intro w' hF; clear hF; go_simp; try rfl
          rotate_left
          · simp only [Act.put]; exact rfl
          refine Calm.takeL 19 (i := 13) (v := ?_) (a' := ?_) (l' := #[true, true, true, true, true, true, true, true, true, true, true, true, true, true, false, false, false, false, false]) (d := some 133) (by kernel_rfl) rfl (by kernel_rfl) (by kernel_rfl) (by kernel_rfl) (by kernel_rfl) (fun _ _ _ h => h) HF.out rfl ?_ rfl rfl ?_ ?_
          rotate_left
          · intro w' hF; have c0 := (RQ.out.below hF).st.box.cell0; have o3 := (RQ.out.below hF).box.cell3; have p3 := (PX.out.step (RQ.out.below hF).bel).cell3; have r1 := RC.out _ hF; have r2 := OC1.out _ hF; have hq2 := HQL.out; clear hF; go_simp; try rfl
          rotate_left
          · simp only [Act.put]; exact rfl
          refine Calm.one (i := 14) (l' := #[true, true, true, true, true, true, true, true, true, true, true, true, true, true, true, false, false, false, false]) (by kernel_rfl) rfl rfl rfl fun K hK => ?_
          go_simp
          have hcall := holder_any (ot sN.held q) wjd w1.heap.size S _ _ _ (RQ.out.below HF.out).st (by have := H128.out; omega)
          refine hcall.mono ?_
          clear hcall
          rintro e w7 ⟨rfl, hw⟩
          have hb : Below wjd.heap.size wjd w7 := by rw [hw]; exact Below.refl _ _
          clear hw
          have HF' := hide (HF.out.trans ((hb).mono HF.out.size))
          refine hK _ _ (fun _ => HF'.out) ?_
          clear hK K HF hb
          have HF := hide HF'.out
          clear HF'
          refine Calm.one (i := 15) (l' := #[true, true, true, true, true, true, true, true, true, true, true, true, true, true, true, true, false, false, false]) (by kernel_rfl) rfl rfl rfl fun K hK => ?_
          go_simp
          have al := below_alloc w7 (.cells #[.int .i64 (hold sN.held (ot sN.held q))] 3)
          have HF' := hide (HF.out.trans ((al).mono HF.out.size))
          have BXN := hide (ints1c w7 3 (hold sN.held (ot sN.held q)) rfl)
          have GEN := hide (HF.out.size)
          refine hK _ _ (fun _ => HF'.out) ?_
          clear hK K HF al
          have HF := hide HF'.out
          clear HF'
          generalize w7.alloc (.cells #[.int .i64 (hold sN.held (ot sN.held q))] 3) = wzN at *
          generalize w7.heap.size = gN at *
          refine Calm.one (i := 16) (l' := #[true, true, true, true, true, true, true, true, true, true, true, true, true, true, true, true, true, false, false]) (by kernel_rfl) rfl rfl rfl fun K hK => ?_
          have RP2 := hide (RQ.out.below HF.out)
          refine wp_appI _ (.tmp 121) (.tmp 135) rfl wm _ ((p.outs.take j).map (fun r : Int => hold sN.held (ot sN.held r.toNat))) rfl RP2.out.oo _ (hold sN.held (ot sN.held q)) rfl BXN.out (by rw [List.length_map, List.length_take]; omega) RP2.out.b2.2 ?_
          intro v' w9 hown hgrow
          obtain ⟨vb, vcb, hvb⟩ := own_slice hown
          rw [List.length_append, List.length_singleton, List.length_map, List.length_take, Nat.min_eq_left hj] at hvb
          subst hvb
          have OX := hide (show Box4 w9 O 25 _ _ _ _ from (hgrow.block O RP2.out.box.lt (fun e => own_block_ne RP2.out.oo RP2.out.box (by decide) e.symm)).trans RP2.out.box)
          have RP9 := hide (RP2.out.appO hgrow hown (fun kq hkq => by rcases RP2.out.vlt with h | h; exact h kq hkq; exact VL.out kq hkq))
          refine hK _ _ (fun h => absurd h (by decide)) ?_
          clear hK K
          refine Calm.one (i := 17) (l' := #[true, true, true, true, true, true, true, true, true, true, true, true, true, true, true, true, true, true, false]) (by kernel_rfl) rfl rfl rfl fun K hK => ?_
          go_simp
          refine hK _ _ (fun h => absurd h (by decide)) ?_
          clear hK K
          refine Calm.one (i := 18) (l' := #[true, true, true, true, true, true, true, true, true, true, true, true, true, true, true, true, true, true, true]) (by kernel_rfl) rfl rfl rfl fun K hK => ?_
          have o3 := OX.out.cell3
          have of3 := OX.out.free 3
          go_simp
          refine hK _ _ (fun h => absurd h (by decide)) ?_
          clear hK K
          refine Calm.done (by kernel_rfl) ?_
          clear o3 of3
          go_wp2
          go_roundw
          case rel =>
            refine ⟨j + 1, .slice vb (j + 1) vcb, by omega, by go_num, ?_⟩
            have e1 : (p.outs.take (j + 1)).map (fun r : Int => hold sN.held (ot sN.held r.toNat)) = (p.outs.take j).map (fun r : Int => hold sN.held (ot sN.held r.toNat)) ++ [hold sN.held (ot sN.held q)] := by
              rw [List.take_succ_eq_append_getElem hlt, List.map_append, List.map_singleton, ← ot_lt hlt, HQ.out]
              rfl
            rw [e1]
            exact RP9.out
          case measure => simp [intOf]; omega
        · have e : j = p.outs.length := by omega
          subst e
          have o0 := RQ.out.box.cell0
          have o1 := RQ.out.box.cell1
          have o2 := RQ.out.box.cell2
          have o3 := RQ.out.box.cell3
          have RX2 := hide (RX.out.step RQ.out.bel)
          have r0 := RX2.out.cell0
          have r1 := RX2.out.cell1
          have r2 := RX2.out.cell2
          have r3 := RX2.out.cell3
          have f0 := RX2.out.free 0
          have f1 := RX2.out.free 1
          have f2 := RX2.out.free 2
          have f3 := RX2.out.free 3
          go_wp2
          refine ret_pg rfl R _ _ _ _ rfl (RX2.out.put _ _ _ _) rfl ?_
          refine ⟨⟨_, rfl, .slice ga (codS p p.code.length).length gcap, .slice oa' p.outs.length ocap, rfl, ?_, ?_⟩, ?_⟩
          · exact own_base (own_put (own_base RQ.out.oc (Nat.le_refl _)) RX.out.lt _ _ _ _) HB.out.size
          · have h1 := RQ.out.oo
            rw [List.take_length] at h1
            have h2 : OwnO wj wm (.slice oa' p.outs.length ocap) (shP p).outs := by unfold shP; dsimp only; rw [HSN.out]; exact h1
            exact own_base (own_put h2 (Nat.lt_of_lt_of_le RX.out.lt RQ.out.b2.1) _ _ _ _) (Nat.le_trans HB.out.size RQ.out.b2.1)
          · exact below_put4 (HB.out.trans (RQ.out.bel.mono HB.out.size)) (by have := HR.out; have := HZ.out; omega) _ _ _ _
end Go.Proofs.Ytcciojlbfaanmaa
