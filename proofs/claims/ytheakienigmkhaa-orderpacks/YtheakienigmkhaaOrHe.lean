/- swageref16.Held: which value stands in a register ahead of an instruction. -/
import Derived.Test.YtheakienigmkhaaOrM4
import Derived.Test.YtheakienigmkhaaPgApp
import Derived.Test.YtheakienigmkhaaPgRNeed
namespace Go.Proofs.Ytheakienigmkhaa
open Go.RowKit

theorem BoolsAt.atO {w : World} {a : Option Addr} {n cap : Nat} {l : List Bool} (h : BoolsAt w (.slice a n cap) l) {k : Nat} (hk : k < l.length) : ∃ b off, a = some ⟨b, off, none⟩ ∧ w.cell? ⟨b, off + k, none⟩ = some (.bool (bl l k)) := by
  obtain ⟨a', c, e, _, _, hne⟩ := h
  simp only [Value.slice.injEq] at e
  obtain ⟨rfl, _, _⟩ := e
  obtain ⟨b, off, e2, hc⟩ := hne (by intro e; rw [e] at hk; simp at hk)
  exact ⟨b, off, e2, hc k hk⟩
theorem ndL_lengthO (p : Pg) : (ndL p).length = p.code.length := need_length _ _
set_option maxRecDepth 100000 in
set_option maxHeartbeats 8000000 in
theorem held_any (v nv : Value) (p : Pg) (w : World) (h : PgAt w v p) (hn : BoolsAt w nv (ndL p)) (k : Nat) (hk : k ≤ p.code.length) (hk2 : p.code.length ≤ 400) (r : Int) (hr : -100000 ≤ r ∧ r ≤ 100000) :
    Calls Try.prog 39 #[v, nv, .int .i64 k, .int .i64 r] w fun e w' => e = .returned (.int .i64 (heldF p k r)) ∧ Below w.heap.size w w' := by
  obtain ⟨ca, cc, oa, oc, rfl, hc, ho⟩ := h
  obtain ⟨na, nc, rfl, _, _, _⟩ := id hn
  rw [ndL_lengthO] at hn ⊢
  have KC := hide hc
  have KN := hide hn
  clear hc ho hn
  go_enter Try.func39, Try.ntmps39
  go_upto_region 1 with fail
  have hb := below_alloc w (.cells #[.int .i64 p.ins, .int .i64 p.regs, .slice ca p.code.length cc, .slice oa p.outs.length oc] 25)
  have PX := hide (Box4.new w 25 (.int .i64 p.ins) (.int .i64 p.regs) (.slice ca p.code.length cc) (.slice oa p.outs.length oc))
  replace KC := hide (KC.out.below hb)
  replace KN := hide (KN.out.below hb)
  have HB := hide hb
  clear hb
  generalize w.alloc (.cells #[.int .i64 p.ins, .int .i64 p.regs, .slice ca p.code.length cc, .slice oa p.outs.length oc] 25) = w1 at *
  obtain ⟨B, hB⟩ : ∃ B, B = w.heap.size := ⟨_, rfl⟩
  have HZ := hide hB
  rw [← hB] at PX ⊢
  clear hB
  go_wp2
  go_loopw [9] (fun jv wr => ∃ m : Nat, m ≤ k ∧ jv = .int .i64 ((m : Int) - 1) ∧ heldF p m r = heldF p k r ∧ wr = w1) (fun jv _ => (intOf jv + 1).toNat)
  case atStart => exact ⟨k, Nat.le_refl _, rfl, rfl, rfl⟩
  case round =>
    obtain ⟨m, hm, rfl, he, rfl⟩ := hrel
    cases m with
    | zero =>
      have c0 := PX.out.cell0
      have e0 : heldF p k r = if r < p.ins then -1 - r else -1000 := by rw [← he]; rfl
      by_cases h : r < p.ins
      · rw [if_pos h] at e0
        have HE := hide e0
        clear e0 he
        go_wp2
        go_ret
        exact ⟨by rw [HE.out]; rfl, HB.out⟩
      · rw [if_neg h] at e0
        have HE := hide e0
        clear e0 he
        go_wp2
        go_ret
        exact ⟨by rw [HE.out]; rfl, HB.out⟩
    | succ m =>
      rw [show (((m + 1 : Nat) : Int) - 1) = (m : Int) by omega]
      have hlt : m < p.code.length := by omega
      obtain ⟨b1, o1, rfl, hic⟩ := CodeAt.at KC.out hlt
      obtain ⟨b2, o2, rfl, hbc⟩ := BoolsAt.atO KN.out (k := m) (by rw [ndL_lengthO]; exact hlt)
      have i1 := hic.cell1
      have c2 := PX.out.cell2
      have es : heldF p (m + 1) r = if setA p m ≠ -1 ∧ (cd p.code m).to = r then (m : Int) else heldF p m r := rfl
      rw [ndL_get p hlt] at hbc
      generalize (cd p.code m).to = t at *
      clear hic
      by_cases hs : setA p m = -1
      · rw [if_neg (fun q => q.1 hs)] at es
        rw [show decide (setA p m ≠ -1) = false by simp [hs]] at hbc
        go_wp2
        go_roundw
        case rel => exact ⟨m, by omega, rfl, by rw [← he, es], by first | trivial | rfl⟩
        case measure => first | (simp [intOf]; done) | (simp [intOf]; omega)
      · rw [show decide (setA p m ≠ -1) = true by simp [hs]] at hbc
        by_cases ht : t = r
        · subst ht
          rw [if_pos ⟨hs, rfl⟩] at es
          go_wp2
          go_ret
          exact ⟨by rw [← he, es]; rfl, HB.out⟩
        · rw [if_neg (fun q => ht q.2)] at es
          have ht2 : (t == r) = false := by simpa using ht
          go_wp2
          go_roundw
          case rel => exact ⟨m, by omega, rfl, by rw [← he, es], by first | trivial | rfl⟩
          case measure => first | (simp [intOf]; done) | (simp [intOf]; omega)
end Go.Proofs.Ytheakienigmkhaa
