/- dead.Idle, dead.Asked; the idle instructions' numbers as a range over them asks for them. -/
import Derived.Test.YtcciojlbfaanmaaDdId
namespace Go.Proofs.Ytcciojlbfaanmaa
open Go.RowKit Go.Shelf
attribute [local go_sem] Oper.semAt_some

theorem OwnB.at {w : World} {base : Nat} {v : Value} {L : List Bool} (h : OwnB w base v L) : ∃ a c, v = .slice a L.length c ∧ ∀ k, k < L.length → ∃ g, a = some ⟨g, 0, none⟩ ∧ base ≤ g ∧ g < w.heap.size ∧ w.cell? ⟨g, k, none⟩ = some (.bool (bl L k)) := by
  rcases h.2 with ⟨rfl, h0⟩ | ⟨g, cap, cur, rfl, hb, hg, r⟩
  · exact ⟨none, 0, by rw [h0], fun k hk => by omega⟩
  · exact ⟨_, _, rfl, fun k hk => ⟨g, rfl, hb, (Array.getElem?_eq_some_iff.1 hg).1, OwnB.cell (g := g) h hk⟩⟩
theorem idl_yields (n : Nat) (hn : 1 ≤ n) (bx lo hi base : Nat) (v : Value) (L : List Bool) (hm : L.length ≤ 100000) (w : World) (hO : OwnB w base v L) (hlo : lo ≤ base) (hhi : hi = w.heap.size) (hc : w.cell? ⟨bx, 0, none⟩ = some v) :
    YieldsC n Try.prog 50 #[.pointer (some ⟨bx, 0, none⟩)] encI (KI lo hi) (fun _ _ => False) (fun ys => ys = ixsK L L.length) (fun pre => pre <+: ixsK L L.length) w := by
  intro l J Jx W hW _ _ _ hY h0
  obtain ⟨a, c, rfl, hk⟩ := hO.at
  have bxl : bx < w.heap.size := World.block_lt_of_cell? _ _ hc
  subst hhi
  refine idl1_in n hn l bx lo _ L a c hm J Jx W hY ((hW.cell (p := ⟨bx, 0, none⟩) bxl).trans hc) (fun k hk' => ?_) h0
  obtain ⟨g, e, h1, h2, h3⟩ := hk k hk'
  exact ⟨g, e, Nat.le_trans hlo h1, h2, (hW.cell (p := ⟨g, k, none⟩) h2).trans h3⟩
def IdR (w w' : World) (e : Ending) (L : List Bool) : Prop := ∃ bx v, e = .returned (.func (.func 50) #[] #[.pointer (some ⟨bx, 0, none⟩)]) ∧ w.heap.size ≤ bx ∧ Boxed w' bx 50 v ∧ OwnB w' w.heap.size v L
def idR (p : Pg) : List Bool := if rightB p = true then idL p else []
set_option maxRecDepth 100000 in
set_option maxHeartbeats 8000000 in
theorem idle_any (v : Value) (p : Pg) (w : World) (h : PgAt w v p) (hl : rightB p = true → p.code.length ≤ 400) :
    Calls Try.prog 26 #[v] w fun e w' => IdR w w' e (idR p) ∧ Below w.heap.size w w' := by
  have HP := hide h
  have HL := hide hl
  clear hl
  obtain ⟨ca, cc, oa, oc, rfl, hc, _⟩ := h
  clear hc
  go_enter Try.func26, Try.ntmps26
  go_upto_region 2 with fail
  have b1 := below_alloc w (.cells #[.int .i64 p.ins, .int .i64 p.regs, .slice ca p.code.length cc, .slice oa p.outs.length oc] 25)
  have b2 := below_alloc (w.alloc (.cells #[.int .i64 p.ins, .int .i64 p.regs, .slice ca p.code.length cc, .slice oa p.outs.length oc] 25)) (.cells #[.slice none 0 0] 50)
  have PX := hide ((Box4.new w 25 (.int .i64 p.ins) (.int .i64 p.regs) (.slice ca p.code.length cc) (.slice oa p.outs.length oc)).step b2)
  have RX := hide (Boxed.new (w.alloc (.cells #[.int .i64 p.ins, .int .i64 p.regs, .slice ca p.code.length cc, .slice oa p.outs.length oc] 25)) 50 (.slice none 0 0))
  rw [World.size_alloc] at RX
  replace HP := hide ((HP.out.below b1).below b2)
  have HB := hide (b1.trans (b2.mono b1.size))
  clear b1 b2
  generalize (w.alloc (.cells #[.int .i64 p.ins, .int .i64 p.regs, .slice ca p.code.length cc, .slice oa p.outs.length oc] 25)).alloc (.cells #[.slice none 0 0] 50) = w1 at *
  obtain ⟨B, hB⟩ : ∃ B, B = w.heap.size := ⟨_, rfl⟩
  have HZ := hide hB
  rw [← hB] at PX RX ⊢
  clear hB
  have c0 := PX.out.cell0
  have c1 := PX.out.cell1
  have c2 := PX.out.cell2
  have c3 := PX.out.cell3
  go_wp2_with fail
  refine (check_any _ p _ HP.out).mono ?_
  rintro e w2 ⟨rfl, hb⟩
  replace PX := hide (PX.out.step hb)
  replace RX := hide (boxed_step RX.out hb)
  replace HP := hide (HP.out.below hb)
  replace HB := hide (HB.out.trans (hb.mono HB.out.size))
  clear hb c0 c1 c2 c3
  cases hr : rightB p with
  | false =>
    rw [ck_wrong hr]
    generalize chkK p = kk
    go_wp2
    go_ret
    rw [show idR p = [] from by unfold idR; rw [hr]; rfl]
    exact ⟨⟨B + 1, _, rfl, by have := HZ.out; omega, RX.out, World.ownsRow_nil _ _ _ _⟩, HB.out⟩
  | true =>
    rw [ck_right hr]
    have c0 := PX.out.cell0
    have c1 := PX.out.cell1
    have c2 := PX.out.cell2
    have c3 := PX.out.cell3
    go_wp2_with fail
    refine (fb_any _ p _ HP.out hr (HL.out hr)).mono ?_
    rintro e w3 ⟨⟨gn, gw, rfl, h1, h2⟩, hb⟩
    have RY := hide (boxed_step RX.out hb)
    have WS := hide HB.out.size
    have L2 := hide RX.out.lt
    replace HB := hide (HB.out.trans (hb.mono HB.out.size))
    have ON := hide h1
    clear h1 h2 hb c0 c1 c2 c3
    have hc := RY.out.cell
    have hf := RY.out.frozen
    go_wp2
    go_ret
    rw [show idR p = idL p from by unfold idR; rw [hr]; rfl]
    refine ⟨⟨B + 1, _, rfl, by have := HZ.out; omega, RY.out.set _, ?_⟩, HB.out.setCell (p := ⟨B + 1, 0, none⟩) (by have := HZ.out; show w.heap.size ≤ B + 1; omega) _⟩
    exact own_base (ownsRow_setCell_below ON.out (a := ⟨B + 1, 0, none⟩) L2.out _) WS.out
def AskR (w w' : World) (e : Ending) (p : Pg) : Prop := if rightB p = true then ∃ g, e = .returned (.tuple #[.slice (some ⟨g, 0, none⟩) p.regs.toNat p.regs.toNat, .int .i64 0]) ∧ OwnB w' w.heap.size (.slice (some ⟨g, 0, none⟩) p.regs.toNat p.regs.toNat) (askd p) else e = .returned (.tuple #[.slice none 0 0, .int .i64 80])
set_option maxRecDepth 100000 in
set_option maxHeartbeats 8000000 in
theorem asked_any (v : Value) (p : Pg) (w : World) (h : PgAt w v p) (hl : rightB p = true → p.code.length ≤ 400) :
    Calls Try.prog 22 #[v] w fun e w' => AskR w w' e p ∧ Below w.heap.size w w' := by
  have HP := hide h
  have HL := hide hl
  clear hl
  obtain ⟨ca, cc, oa, oc, rfl, hc, _⟩ := h
  clear hc
  go_enter Try.func22, Try.ntmps22
  go_upto_region 1 with fail
  have hb := below_alloc w (.cells #[.int .i64 p.ins, .int .i64 p.regs, .slice ca p.code.length cc, .slice oa p.outs.length oc] 25)
  have PX := hide (Box4.new w 25 (.int .i64 p.ins) (.int .i64 p.regs) (.slice ca p.code.length cc) (.slice oa p.outs.length oc))
  replace HP := hide (HP.out.below hb)
  have HB := hide hb
  clear hb
  generalize w.alloc (.cells #[.int .i64 p.ins, .int .i64 p.regs, .slice ca p.code.length cc, .slice oa p.outs.length oc] 25) = w1 at *
  obtain ⟨B, hB⟩ : ∃ B, B = w.heap.size := ⟨_, rfl⟩
  have HZ := hide hB
  rw [← hB] at PX ⊢
  clear hB
  have c0 := PX.out.cell0
  have c1 := PX.out.cell1
  have c2 := PX.out.cell2
  have c3 := PX.out.cell3
  go_wp2_with fail
  refine (check_any _ p _ HP.out).mono ?_
  rintro e w2 ⟨rfl, hb⟩
  replace PX := hide (PX.out.step hb)
  replace HP := hide (HP.out.below hb)
  replace HB := hide (HB.out.trans (hb.mono HB.out.size))
  clear hb c0 c1 c2 c3
  cases hr : rightB p with
  | false =>
    rw [ck_wrong hr]
    generalize chkK p = kk
    go_wp2
    go_ret2
    exact ⟨by unfold AskR; rw [hr, if_neg (by decide)]; rfl, HB.out⟩
  | true =>
    rw [ck_right hr]
    have c0 := PX.out.cell0
    have c1 := PX.out.cell1
    have c2 := PX.out.cell2
    have c3 := PX.out.cell3
    go_wp2_with fail
    refine (fb_any _ p _ HP.out hr (HL.out hr)).mono ?_
    rintro e w3 ⟨⟨gn, gw, rfl, h1, h2⟩, hb⟩
    have WS := hide HB.out.size
    replace HB := hide (HB.out.trans (hb.mono HB.out.size))
    have ON := hide h2
    clear h1 h2 hb c0 c1 c2 c3
    go_wp2
    go_ret2
    skip
    exact ⟨by unfold AskR; rw [if_pos hr]; exact ⟨_, rfl, own_base ON.out WS.out⟩, HB.out⟩
end Go.Proofs.Ytcciojlbfaanmaa
