/- swagelaw16.spoil: a program's lists are written over, spare room and all: nothing else is. -/
import Derived.Test.YtheakienigmkhaaPgRowW
import Derived.Test.YtheakienigmkhaaPgIn
namespace Go.Proofs.Ytheakienigmkhaa
open Go.RowKit

/-- all blocks stand but two -/
structure SpS (base : Nat) (w : World) (r1 r2 : Option Nat) (w' : World) : Prop where
  bel : Below base w w'
  keep : ∀ k, k < w.heap.size → r1 ≠ some k → r2 ≠ some k → w'.heap[k]? = w.heap[k]?
section
variable {base : Nat} {w w' w'' : World} {r1 r2 : Option Nat}
theorem SpS.of (h : Below w.heap.size w w') (hb : base ≤ w.heap.size) : SpS base w r1 r2 w' := ⟨h.mono hb, fun k hk _ _ => h.block k hk⟩
theorem SpS.set {g : Nat} (h : SpS base w r1 r2 w') (hg : r1 = some g ∨ r2 = some g) (hb : base ≤ g) (o : Nat) (c : Value) : SpS base w r1 r2 (w'.setCell ⟨g, o, none⟩ c) :=
  ⟨h.bel.setCell (p := ⟨g, o, none⟩) hb c, fun k hk h1 h2 => (Below.heap_setCell w' ⟨g, o, none⟩ c k (fun e => by subst e; exact hg.elim h1 h2)).trans (h.keep k hk h1 h2)⟩
theorem SpS.own {b size n : Nat} {e : TypeId} {v : Value} {xs : List Value} (h : SpS base w r1 r2 w') (ho : w.ownsRow b e size v n xs) (h1 : ∀ k, r1 = some k → k < b) (h2 : ∀ k, r2 = some k → k < b) : w'.ownsRow b e size v n xs := by
  obtain ⟨hl, q⟩ := ho
  refine ⟨hl, ?_⟩
  rcases q with q | ⟨g, cap, cur, rfl, hg, hh, r⟩
  · exact .inl q
  · exact .inr ⟨g, cap, cur, rfl, hg, by rw [h.keep g (Array.getElem?_eq_some_iff.1 hh).1 (fun e => by have := h1 g e; omega) (fun e => by have := h2 g e; omega)]; exact hh, r⟩
theorem SpS.box {B : Nat} {t e1 e2 : TypeId} {x y z u v1 v2 : Value} {b1 b2 s1 s2 n1 n2 : Nat} {xs ys : List Value} (h : SpS base w v1.ownBlock v2.ownBlock w') (hx : Box4 w B t x y z u) (ho1 : w.ownsRow b1 e1 s1 v1 n1 xs) (ho2 : w.ownsRow b2 e2 s2 v2 n2 ys) (hn1 : e1 ≠ t) (hn2 : e2 ≠ t) : Box4 w' B t x y z u := by
  have cr : ∀ {bb nn ss : Nat} {v : Value} {e : TypeId} {zs : List Value}, w.ownsRow bb e ss v nn zs → e ≠ t → v.ownBlock ≠ some B := by
    intro bb nn ss v e zs h hne
    rcases h.2 with ⟨rfl, _⟩ | ⟨g, cap, cur, rfl, _, hh, _⟩
    · simp [Value.ownBlock]
    · intro e1
      have e1 : g = B := by simpa [Value.ownBlock] using e1
      subst e1
      rw [show w.heap[g]? = _ from hx] at hh
      simp only [Option.some.injEq, Obj.cells.injEq] at hh
      exact hne hh.2.1.symm
  exact (h.keep B hx.lt (cr ho1 hn1) (cr ho2 hn2)).trans hx
end
theorem below_base {base : Nat} {w w' w'' : World} (h1 : Below w.heap.size w w') (h2 : Below base w' w'') (hb : base ≤ w.heap.size) : Below base w w'' := (h1.mono hb).trans h2
set_option maxRecDepth 100000 in
set_option maxHeartbeats 16000000 in
theorem spoil_any (v : Value) (p : Pg) (base : Nat) (w : World) (vc vo : Value) (hv : v = .agg #[.int .i64 p.ins, .int .i64 p.regs, vc, vo]) (h1 : OwnC w base vc p.code) (h2 : OwnO w base vo p.outs) (hbs : base ≤ w.heap.size) :
    Calls Try.prog 22 #[v] w fun e w' => e = .returned (.tuple #[]) ∧ SpS base w vc.ownBlock vo.ownBlock w' := by
  subst hv
  obtain ⟨qa, qc, rfl⟩ := own_slice h1
  obtain ⟨ra, rc, rfl⟩ := own_slice h2
  have OC := hide h1
  have OO := hide h2
  have HBS := hide hbs
  clear h1 h2 hbs
  go_enter Try.func22, Try.ntmps22
  go_upto_region 1 with fail
  have hb := below_alloc w (.cells #[.int .i64 p.ins, .int .i64 p.regs, .slice qa p.code.length qc, .slice ra p.outs.length rc] 25)
  have DX := hide (Box4.new w 25 (.int .i64 p.ins) (.int .i64 p.regs) (.slice qa p.code.length qc) (.slice ra p.outs.length rc))
  replace OC := hide (own_below OC.out hb)
  replace OO := hide (own_below OO.out hb)
  have HW : Hid (Below w.heap.size w (w.alloc (.cells #[.int .i64 p.ins, .int .i64 p.regs, .slice qa p.code.length qc, .slice ra p.outs.length rc] 25))) := hide hb
  clear hb
  generalize w.alloc (.cells #[.int .i64 p.ins, .int .i64 p.regs, .slice qa p.code.length qc, .slice ra p.outs.length rc] 25) = w14 at *
  obtain ⟨D, hD⟩ : ∃ D, D = w.heap.size := ⟨_, rfl⟩
  rw [← hD] at DX ⊢
  clear hD
  have d0 := DX.out.cell0
  have d1 := DX.out.cell1
  have d2 := DX.out.cell2
  have d3 := DX.out.cell3
  go_quiet (fail)
  have RS : Hid ((RowW (w14.drewN nq) base 40 5 (.slice qa qc qc) qc) ∧ RowW (w14.drewN nq) base 3 1 (.slice ra rc rc) rc) := hide ⟨(own_cap OC.out).alloc (below_drewN (Below.refl _ _) _), (own_cap OO.out).alloc (below_drewN (Below.refl _ _) _)⟩
  have HW2 : Hid (SpS base w (Value.ownBlock (.slice qa p.code.length qc)) (Value.ownBlock (.slice ra p.outs.length rc)) (w14.drewN nq)) := hide (SpS.of (below_drewN HW.out nq) HBS.out)
  clear HW
  have HW := hide HW2.out
  clear HW2
  clear d0 d1 d2 d3 DX OC OO
  generalize w14.drewN nq = w15 at *
  have M5 := hide (row_max RS.out.1)
  have M6 := hide (row_max RS.out.2)
  go_upto_region 3 with fail
  have m5 := M5.out
  go_loopw [4] (fun kv wr => ∃ k : Nat, k ≤ qc ∧ kv = .int .i64 k ∧ SpS base w (Value.ownBlock (.slice qa p.code.length qc)) (Value.ownBlock (.slice ra p.outs.length rc)) wr ∧ (RowW wr base 40 5 (.slice qa qc qc) qc) ∧ RowW wr base 3 1 (.slice ra rc rc) rc) (fun kv _ => qc - (intOf kv).toNat)
  case atStart => exact ⟨0, Nat.zero_le _, rfl, HW.out, RS.out⟩
  case round =>
    clear HW RS
    obtain ⟨k, hk, rfl, hwr, hrs⟩ := hrel
    have HW := hide hwr
    have RS := hide hrs
    clear hwr hrs
    by_cases hlt : k < qc
    · obtain ⟨g, rfl⟩ := row_some RS.out.1 (by omega)
      obtain ⟨⟨z0, e0⟩, f0⟩ := row_cell RS.out.1 (j := k * 5) (by omega)
      obtain ⟨⟨z1, e1⟩, f1⟩ := row_cell RS.out.1 (j := k * 5 + 1) (by omega)
      obtain ⟨⟨z2, e2⟩, f2⟩ := row_cell RS.out.1 (j := k * 5 + 2) (by omega)
      obtain ⟨⟨z3, e3⟩, f3⟩ := row_cell RS.out.1 (j := k * 5 + 3) (by omega)
      obtain ⟨⟨z4, e4⟩, f4⟩ := row_cell RS.out.1 (j := k * 5 + 4) (by omega)
      have GE := hide (row_block RS.out.1).1
      go_wp2
      go_roundw
      case rel =>
        refine ⟨k + 1, by omega, by go_num, ?_, ?_⟩
        · exact ((((HW.out.set (.inl rfl) GE.out _ _).set (.inl rfl) GE.out _ _).set (.inl rfl) GE.out _ _).set (.inl rfl) GE.out _ _).set (.inl rfl) GE.out _ _
        · exact rows_set (rows_set (rows_set (rows_set (rows_set RS.out (by decide) _ _) (by decide) _ _) (by decide) _ _) (by decide) _ _) (by decide) _ _
      case measure => simp [intOf]; omega
    · have e : qc = k := by omega
      subst e
      go_upto_region 7 with fail
      clear m5
      have m6 := M6.out
      go_loopw [5] (fun kv wr => ∃ k : Nat, k ≤ rc ∧ kv = .int .i64 k ∧ SpS base w (Value.ownBlock (.slice qa p.code.length qc)) (Value.ownBlock (.slice ra p.outs.length rc)) wr ∧ RowW wr base 3 1 (.slice ra rc rc) rc) (fun kv _ => rc - (intOf kv).toNat)
      case atStart => exact ⟨0, Nat.zero_le _, rfl, HW.out, RS.out.2⟩
      case round =>
        clear HW RS
        obtain ⟨k, hk, rfl, hwr, hrs⟩ := hrel
        have HW := hide hwr
        have RS := hide hrs
        clear hwr hrs
        by_cases hlt : k < rc
        · obtain ⟨g, rfl⟩ := row_some RS.out (by omega)
          obtain ⟨⟨z0, e0⟩, f0⟩ := row_cell RS.out (j := k) (by omega)
          have GE := hide (row_block RS.out).1
          go_wp2
          go_roundw
          case rel => exact ⟨k + 1, by omega, by go_num, HW.out.set (.inr rfl) GE.out _ _, row_set RS.out _ _⟩
          case measure => simp [intOf]; omega
        · have e : rc = k := by omega
          subst e
          go_wp2
          go_end0
          exact ⟨rfl, HW.out⟩
end Go.Proofs.Ytheakienigmkhaa
