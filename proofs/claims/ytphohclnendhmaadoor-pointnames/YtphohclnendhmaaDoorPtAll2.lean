/- point.All and the document's All, whatever is asked. -/
import Derived.Test.YtphohclnendhmaaDoorPtAll1
import Derived.Test.YtphohclnendhmaaDoorPtDet
namespace Go.Proofs.YtphohclnendhmaaDoor
open Go.RowKit Go.Shelf
attribute [local go_sem] Oper.semAt_some

def allP (m : Int) : List (Int × Int) := if 1 ≤ m ∧ m ≤ 16 then allQ m.toNat else []

theorem rallP (m : Int) (w : World) : Calls Tryd.prog 13 #[.int .i64 m] w fun e w' => ∃ v, e = .returned v ∧ PtsAt w' v (allP m) ∧ (allP m).length ≤ 10000 ∧ Below w.heap.size w w' := by
  unfold allP
  by_cases h : 1 ≤ m ∧ m ≤ 16
  · rw [if_pos h]
    have := rall_any m.toNat w (by omega) (by omega)
    rw [all_eq _ (by omega)]
    rwa [show ((m.toNat : Nat) : Int) = m from by omega] at this
  · rw [if_neg h]
    refine (rall_no m w (by omega)).mono ?_
    rintro e w' ⟨rfl, hb⟩
    exact ⟨_, rfl, ⟨none, 0, rfl, by simp, by simp [maxLen], fun hi => absurd rfl hi⟩, by simp, hb⟩

set_option maxRecDepth 100000 in
theorem all_any (m : Int) (w : World) : Calls Tryd.prog 12 #[.int .i64 m] w fun e w' => ∃ bx, e = .returned (.func (.func 21) #[] #[.pointer (some ⟨bx, 0, none⟩)]) ∧ w.heap.size ≤ bx ∧ Boxed w' bx 3 (.int .i64 m) ∧ Below w.heap.size w w' := by
  go_enter Tryd.func12, Tryd.ntmps12
  have hb := below_alloc w (.cells #[.int .i64 m] 3)
  have BX := Boxed.new w 3 (.int .i64 m)
  go_wp2
  go_ret
  exact ⟨w.heap.size, rfl, Nat.le_refl _, BX, hb⟩

set_option maxRecDepth 100000 in
theorem all_out (n l bm : Nat) (m : Int) (hm : ¬ (1 ≤ m ∧ m ≤ 16)) (J : List (Int × Int) → World → Prop) (W : World) (hJ : OwnFrom W.heap.size J) (hBx : W.cell? ⟨bm, 0, none⟩ = some (.int .i64 m)) (hlt : bm < W.heap.size) (h0 : J [] W) :
    CallsIn Fence.wide n Tryd.prog 21 #[.func (.yield l) #[] #[], .pointer (some ⟨bm, 0, none⟩)] W fun e V => (∃ v, e = .returned v) ∧ J [] V := by
  have HJ := hide (hJ.alloc (.cells #[.func (.yield l) #[] #[]] 25) h0)
  clear hJ h0
  refine callsIn_of_wp_marks Tryd.func21 rfl trivial ?_ rfl
  simp only [Tryd.ntmps21, List.size_toArray, List.length_cons, List.length_nil, Nat.reduceAdd, Nat.reduceSub, Array.replicate_succ, Array.replicate_zero, List.push_toArray, List.append_toArray, List.nil_append, List.cons_append]
  by_cases h1 : m < 1
  · clear hm
    gi_upto_region 1 with fail
    have cm := (World.cell?_of_block ((below_alloc W (.cells #[.func (.yield l) #[] #[]] 25)).block bm hlt)).trans hBx
    generalize W.alloc (.cells #[.func (.yield l) #[] #[]] 25) = w1 at *
    generalize W.heap.size = gY at *
    refine wpIn_wide.2 (wp_scope_straight ((wpIn_wide (n := n)).1 ?_))
    gi_wp2
    try rw [Exit.noGoto_ret]
    refine bodyPostM_none rfl ?_
    exact ⟨⟨_, rfl⟩, HJ.out⟩
  · have h2 : 16 < m := by omega
    clear hm
    gi_upto_region 1 with fail
    have cm := (World.cell?_of_block ((below_alloc W (.cells #[.func (.yield l) #[] #[]] 25)).block bm hlt)).trans hBx
    generalize W.alloc (.cells #[.func (.yield l) #[] #[]] 25) = w1 at *
    generalize W.heap.size = gY at *
    refine wpIn_wide.2 (wp_scope_straight ((wpIn_wide (n := n)).1 ?_))
    gi_wp2
    try rw [Exit.noGoto_ret]
    refine bodyPostM_none rfl ?_
    exact ⟨⟨_, rfl⟩, HJ.out⟩

theorem all_yields (n : Nat) (hn : 2 ≤ n) (bm : Nat) (m : Int) (w : World) (hb : Boxed w bm 3 (.int .i64 m)) :
    Yields n Tryd.prog 21 #[.pointer (some ⟨bm, 0, none⟩)] ptE (KA bm (bm + 1)) (fun ys => ys = allP m) (fun pre => pre <+: allP m) (allP m).length w := by
  intro l J Jx W hW hJ hJx hY h0
  have hc : W.cell? ⟨bm, 0, none⟩ = some (.int .i64 m) := (World.cell?_of_block (hW.block bm hb.lt)).trans hb.cell
  have hl : bm + 1 ≤ W.heap.size := Nat.le_trans hb.lt hW.size
  unfold allP at *
  by_cases h : 1 ≤ m ∧ m ≤ 16
  · simp only [if_pos h] at *
    exact all_in n l bm bm (bm + 1) m.toNat hn (by omega) (by omega) (Nat.le_refl _) (Nat.lt_succ_self _) J Jx W hl hJ hJx hY (by rw [hc, show ((m.toNat : Nat) : Int) = m from by omega]) h0
  · simp only [if_neg h] at *
    refine (all_out n l bm m h J W hJ hc hl h0).mono ?_
    rintro e V ⟨hv, hj⟩
    exact ⟨hv, .inl ⟨_, rfl, hj⟩⟩

theorem eql_func (w : World) (lb : Array Value) : (binOp .eql 39 (.func (.func 21) #[] lb) .nilFunc).run Tryd.prog w = .ok (.bool false) w := by
  have h : ∀ d, (Op.equalIn (d + 1) 39 (.func (.func 21) #[] lb) .nilFunc).run Tryd.prog w = .ok false w := fun d => by simp [Op.equalIn, run_underlying Tryd.underlying39]
  simp only [binOp]
  simp [Op.equal, Op.maxDepth, h 9999]
end Go.Proofs.YtphohclnendhmaaDoor
