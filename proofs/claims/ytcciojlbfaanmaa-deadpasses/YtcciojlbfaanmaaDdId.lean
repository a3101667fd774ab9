/- dead.Idle and its iterator: the numbers of the idle instructions, left early or not; dead.Asked. -/
import Derived.Test.YtcciojlbfaanmaaDdFb
import Derived.Test.YtcciojlbfaanmaaRgM
namespace Go.Proofs.Ytcciojlbfaanmaa
open Go.RowKit Go.Shelf
attribute [local go_sem] Oper.semAt_some

/-- the numbers, of the first k, at which a truth stands -/
def ixsK (L : List Bool) (k : Nat) : List Nat := (List.range k).filter (fun j => bl L j)
theorem ixsK_succ (L : List Bool) (k : Nat) : ixsK L (k + 1) = if bl L k = true then ixsK L k ++ [k] else ixsK L k := by
  unfold ixsK
  rw [List.range_succ, List.filter_append]
  cases h : bl L k <;> simp [h]
theorem ixsK_pre (L : List Bool) (k : Nat) : ∀ d, ixsK L k <+: ixsK L (k + d)
  | 0 => List.prefix_refl _
  | d + 1 => by
    refine (ixsK_pre L k d).trans ?_
    rw [show k + (d + 1) = (k + d) + 1 from rfl, ixsK_succ]
    split
    · exact List.prefix_append _ _
    · exact List.prefix_refl _
theorem ixsK_in {L : List Bool} {k n : Nat} (h : k < n) (hb : bl L k = true) : ixsK L k ++ [k] <+: ixsK L n := by
  have := ixsK_pre L (k + 1) (n - (k + 1))
  rw [ixsK_succ, if_pos hb, show k + 1 + (n - (k + 1)) = n from by omega] at this
  exact this
theorem ixsK_mem {L : List Bool} {k j : Nat} : j ∈ ixsK L k ↔ j < k ∧ bl L j = true := by
  unfold ixsK
  rw [List.mem_filter, List.mem_range]
theorem ixsK_len (L : List Bool) (k : Nat) : (ixsK L k).length ≤ k := by
  unfold ixsK
  exact Nat.le_trans (List.length_filter_le _ _) (by rw [List.length_range]; exact Nat.le_refl _)
theorem ixsK_none {L : List Bool} (a : Nat) : ∀ d, (∀ k, a ≤ k → k < a + d → bl L k = false) → ixsK L (a + d) = ixsK L a
  | 0, _ => rfl
  | d + 1, h => by
    rw [show a + (d + 1) = (a + d) + 1 from rfl, ixsK_succ, if_neg (by rw [h (a + d) (by omega) (by omega)]; decide)]
    exact ixsK_none a d (fun k h1 h2 => h k h1 (by omega))
/-- the next number: between the numbers told and it there is none -/
theorem ixsK_gap {L : List Bool} {n x : Nat} : ∀ (d a : Nat), a + d = n → ixsK L a ++ [x] <+: ixsK L n → a ≤ x ∧ x < n ∧ bl L x = true ∧ ∀ k, a ≤ k → k < x → bl L k = false
  | 0, a, e, h => by
    have := h.length_le
    rw [show a = n from by omega, List.length_append, List.length_singleton] at this
    omega
  | d + 1, a, e, h => by
    cases hb : bl L a with
    | false =>
      have e1 : ixsK L (a + 1) = ixsK L a := by rw [ixsK_succ, if_neg (by rw [hb]; decide)]
      obtain ⟨h1, h2, h3, h4⟩ := ixsK_gap (L := L) (n := n) (x := x) d (a + 1) (show a + 1 + d = n by omega) (by rw [e1]; exact h)
      refine ⟨by omega, h2, h3, fun k k1 k2 => ?_⟩
      by_cases hk : k = a
      · subst hk; exact hb
      · exact h4 k (by omega) k2
    | true =>
      have e2 := ixsK_in (L := L) (k := a) (n := n) (by omega) hb
      obtain ⟨t, ht⟩ := h
      obtain ⟨u, hu⟩ := e2
      rw [← ht, List.append_assoc, List.append_assoc] at hu
      have := List.append_cancel_left hu
      simp only [List.singleton_append, List.cons.injEq] at this
      obtain ⟨rfl, _⟩ := this
      exact ⟨Nat.le_refl _, by omega, hb, fun k k1 k2 => by omega⟩
theorem idK_ixs (p : Pg) (k : Nat) : idK p k = ixsK (idL p) k := rfl
def KI (lo hi : Nat) (_ : Nat) (U V : World) : Prop := Keeps lo hi U V
def encI (x : Nat) : Array Value := #[.int .i64 (x : Nat)]
set_option maxRecDepth 100000 in
set_option maxHeartbeats 4000000 in
theorem idl1_in (n : Nat) (hn : 1 ≤ n) (l bx lo hi : Nat) (L : List Bool) (a : Option Addr) (c : Nat) (hm : L.length ≤ 100000) (J Jx : List Nat → World → Prop) (W : World)
    (hY : ∀ pre x U, J pre U → pre ++ [x] <+: ixsK L L.length → YieldAt Fence.wide (n - 1) Try.prog l (encI x) U fun e V => KeepsFrom W.heap.size U V ∧ ((e = .returned (.bool true) ∧ J (pre ++ [x]) V ∧ KI lo hi W.heap.size U V) ∨ (e = .returned (.bool false) ∧ Jx (pre ++ [x]) V)))
    (hBx : W.cell? ⟨bx, 0, none⟩ = some (.slice a L.length c)) (hA : ∀ k, k < L.length → ∃ g, a = some ⟨g, 0, none⟩ ∧ lo ≤ g ∧ g < hi ∧ W.cell? ⟨g, k, none⟩ = some (.bool (bl L k))) (h0 : J [] W) :
    CallsIn Fence.wide n Try.prog 50 #[.func (.yield l) #[] #[], .pointer (some ⟨bx, 0, none⟩)] W fun e V => (∃ v, e = .returned v) ∧ ((∃ ys, ys = ixsK L L.length ∧ J ys V) ∨ (∃ pre, pre <+: ixsK L L.length ∧ Jx pre V)) := by
  have HY := hide hY
  have HA := hide hA
  clear hY hA
  refine callsIn_of_wp Try.func50 rfl trivial ?_ rfl
  simp only [Try.ntmps50, List.size_toArray, List.length_cons, List.length_nil, Nat.reduceAdd, Nat.reduceSub, Array.replicate_succ, Array.replicate_zero, List.push_toArray, List.append_toArray, List.nil_append, List.cons_append]
  gi_wp2
  gi_loopw [7, 3, 4] (fun iv _ _ wr => ∃ m : Nat, m ≤ L.length ∧ iv = .int .i64 m ∧ J (ixsK L m) wr ∧ Keeps lo hi W wr) (fun iv _ _ _ => L.length - (intOf iv).toNat)
  case atStart => exact ⟨0, Nat.zero_le _, rfl, h0, Keeps.refl _ _ _⟩
  case round =>
    obtain ⟨m, hm', rfl, hJ, hK⟩ := hrel
    have HJ := hide hJ
    have HK := hide hK
    clear hJ hK
    by_cases hlt : m < L.length
    · obtain ⟨g, rfl, g1, g2, hc⟩ := HA.out m hlt
      have k1 := (HK.out.cell g1 g2).trans hc
      cases hb : bl L m with
      | false =>
        have E := hide (show ixsK L (m + 1) = ixsK L m from by rw [ixsK_succ, if_neg (by rw [hb]; decide)])
        rw [hb] at k1
        gi_wp2
        refine ⟨fun f h => (by cases h), ?_⟩
        gi_wp2
        go_roundw
        case rel => exact ⟨m + 1, by omega, by go_num, by rw [E.out]; exact HJ.out, HK.out⟩
        case measure => simp [intOf]; omega
      | true =>
        have E := hide (show ixsK L (m + 1) = ixsK L m ++ [m] from by rw [ixsK_succ, if_pos hb])
        rw [hb] at k1
        obtain ⟨fn1, tm1, as1, bd1, hy1, hr1⟩ := HY.out _ m wr HJ.out (ixsK_in hlt hb)
        have R1 := hide hr1
        unfold encI at hy1
        clear hr1
        gi_wp2
        refine R1.out.mono ?_
        rintro e V ⟨_, (⟨rfl, j1, ka⟩ | ⟨rfl, jx⟩)⟩
        · rw [← E.out] at j1
          have J3 := hide j1
          have K3 := hide (HK.out.trans ka)
          clear hy1 R1 ka j1 k1
          gi_wp2
          go_roundw
          case rel => exact ⟨m + 1, by omega, by go_num, J3.out, K3.out⟩
          case measure => simp [intOf]; omega
        · clear hy1 R1 k1
          have P1 := hide (ixsK_in hlt hb)
          gi_wp2
          refine bodyPost_ret (results_none rfl _ _ _) rfl ?_
          exact ⟨⟨_, rfl⟩, .inr ⟨_, P1.out, jx⟩⟩
    · have e : m = L.length := by omega
      subst e
      gi_wp2
      go_end0
      exact ⟨⟨_, rfl⟩, .inl ⟨_, rfl, HJ.out⟩⟩
end Go.Proofs.Ytcciojlbfaanmaa
