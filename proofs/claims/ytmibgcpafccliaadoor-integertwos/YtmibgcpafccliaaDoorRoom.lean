/- What the laws of layer 1 do around the calls: long, room, kept, and the library's Clone and ContainsFunc. -/
import Derived.Test.YtmibgcpafccliaaDoorLaw
import Derived.WalkSpells
namespace Go.Proofs.YtmibgcpafccliaaDoor
open Go.RowKit

/-- a list of slices in memory, by their lengths -/
def Lists (w : World) (b : Nat) (ls : List (Option Addr × Nat × Nat)) : Prop :=
  ∀ i, (h : i < ls.length) → w.cell? ⟨b, i, none⟩ = some (.slice ls[i].1 ls[i].2.1 ls[i].2.2)

def isLong (ls : List (Option Addr × Nat × Nat)) : Bool := ls.any fun p => decide (160 < p.2.1)

theorem isLong_at {ls : List (Option Addr × Nat × Nat)} {k : Nat} (h : k < ls.length) (hl : 160 < ls[k].2.1) : isLong ls = true := by
  unfold isLong; rw [List.any_eq_true]; exact ⟨ls[k], List.getElem_mem h, by simpa using hl⟩
theorem isLong_none {ls : List (Option Addr × Nat × Nat)} (h : ∀ j, (hj : j < ls.length) → ls[j].2.1 ≤ 160) : isLong ls = false := by
  unfold isLong; rw [List.any_eq_false]; intro p hp
  obtain ⟨i, hi, rfl⟩ := List.mem_iff_getElem.1 hp
  have := h i hi; simp; omega

set_option maxRecDepth 100000 in
set_option maxHeartbeats 1000000 in
theorem index_any (b : Nat) (ls : List (Option Addr × Nat × Nat)) (w : World) (h : Lists w b ls) (hm : ls.length ≤ 1000) (hn : ∀ p ∈ ls, p.2.1 ≤ 9223372036854775807) :
    Calls Tryd.prog 70 #[.slice (some ⟨b, 0, none⟩) ls.length ls.length, .func (.func 43) #[] #[]] w fun e w' => (∃ r : Int, e = .returned (.int .i64 r) ∧ (isLong ls = true → 0 ≤ r) ∧ (isLong ls = false → r = -1)) ∧ w = w' := by
  go_enter Tryd.func70, Tryd.ntmps70
  go_wp2
  go_loop [8] (fun iv => ∃ k : Nat, k ≤ ls.length ∧ iv = .int .i64 k ∧ ∀ j, (hj : j < ls.length) → j < k → ls[j].2.1 ≤ 160) (fun iv => ls.length - (intOf iv).toNat)
  case atStart => exact ⟨0, Nat.zero_le _, rfl, fun j _ hj => absurd hj (Nat.not_lt_zero _)⟩
  case round =>
    obtain ⟨k, hk, rfl, hall⟩ := hrel
    have HA := hide hall
    clear hall
    by_cases hlt : k < ls.length
    · have hc := h k hlt
      have HM := hide (hn _ (List.getElem_mem hlt))
      obtain ⟨⟨a, len, cap⟩, hp⟩ : ∃ p, p = ls[k] := ⟨_, rfl⟩
      rw [← hp] at hc HM
      have HP := hide hp
      have hlen := HM.out
      simp only at hc hlen
      clear hp HM
      by_cases hl : 160 < len
      · go_wp2
        go_ret
        exact ⟨⟨_, rfl, fun _ => by omega, fun e => by rw [isLong_at hlt (by rw [← HP.out]; exact hl)] at e; cases e⟩, rfl⟩
      · go_wp2
        go_round
        case rel => exact ⟨k + 1, by omega, by go_num, fun j hj hjk => by
          rcases Nat.lt_succ_iff_lt_or_eq.1 hjk with h' | rfl
          · exact HA.out j hj h'
          · rw [← HP.out]; simp only; omega⟩
        case measure => simp [intOf]; omega
    · go_wp2
      go_ret
      have e0 := isLong_none (ls := ls) (fun j hj => HA.out j hj (by omega))
      exact ⟨⟨_, rfl, (fun e => by rw [e0] at e; cases e), fun _ => rfl⟩, rfl⟩

set_option maxRecDepth 100000 in
set_option maxHeartbeats 400000 in
theorem long01_any (b : Nat) (ls : List (Option Addr × Nat × Nat)) (w : World) (h : Lists w b ls) (hm : ls.length ≤ 1000) (hn : ∀ p ∈ ls, p.2.1 ≤ 9223372036854775807) :
    Calls Tryd.prog 7 #[.slice (some ⟨b, 0, none⟩) ls.length ls.length] w fun e w' => e = .returned (.bool (isLong ls)) ∧ w = w' := by
  go_enter Tryd.func7, Tryd.ntmps7
  go_wp2_with (first | (go_at_call 70; refine (index_any b ls _ h hm hn).mono ?_; rintro e w1 ⟨⟨r, rfl, hr1, hr2⟩, rfl⟩) | go_in)
  go_ret
  refine ⟨?_, rfl⟩
  cases hL : isLong ls with
  | true => have := hr1 hL; simp [this]
  | false => have := hr2 hL; subst this; rfl

theorem own_one {w : World} {base : Nat} {v : Value} {xs : List Nat} (h : Own w base v xs) (hne : xs ≠ []) : ∃ g cap, v = .slice (some ⟨g, 0, none⟩) xs.length cap ∧ base ≤ g ∧ xs.length ≤ cap ∧ cap ≤ maxLen := by
  rcases h.2 with ⟨_, h0⟩ | ⟨g, cap, cur, rfl, hb, _, hnc, hcm, _⟩
  · exact absurd (List.eq_nil_of_length_eq_zero h0) hne
  · exact ⟨g, cap, rfl, hb, hnc, hcm⟩

set_option maxRecDepth 100000 in
set_option maxHeartbeats 400000 in
theorem clone_any (v : Value) (xs : List Nat) (w : World) (h : Nums w v xs) (hlen : xs.length ≤ 1000000000) :
    Calls Tryd.prog 44 #[v] w fun e w' => ∃ v', e = .returned v' ∧ Own w' w.heap.size v' xs ∧ Below w.heap.size w w' := by
  obtain ⟨i0, hi, hz0, hz1, hz2⟩ := info_parts Tryd.info32
  have HN := hide h
  obtain ⟨ho, a, cap, rfl, hl, hm, hc⟩ := h
  cases a with
  | none =>
    have hnil : xs = [] := by
      by_cases e : xs = []
      · exact e
      · obtain ⟨b, off, hb, _⟩ := hc e; cases hb
    subst hnil
    clear hc
    have hq := @Lib.run_eql_slice_nil Tryd.prog
    go_enter Tryd.func44, Tryd.ntmps44
    go_wp2
    go_ret
    exact ⟨_, rfl, World.ownsRow_nil _ _ _ _, Below.refl _ _⟩
  | some ad =>
    have hq := @Lib.run_eql_slice_nil Tryd.prog
    have hnw := (HN.out.below (below_alloc w (.cells #[] 32))).news
    clear hc
    go_enter Tryd.func44, Tryd.ntmps44
    go_wp2_with (at_builtin; refine wpList_append_own _ rfl _ _ 22 rfl w.heap.size 32 i0 (.int .u32 0) 1 4 Tryd.underlying22 hi hz0 hz1 hz2 rfl (by decide) _ _ _ rfl (World.ownsRow_lit w #[] 0 (Nat.le_refl _) (Nat.zero_le _) rfl) ad _ _ (ints xs) rfl hnw.1 hnw.2 (ints_one _) ?c3 ?c4 ?c5 ?_)
    case c3 => unfold maxLen; omega
    case c4 => omega
    case c5 => simp
    intro v' w1 hown hgrow _
    have hO : Hid (Own w1 w.heap.size v' xs) := by show World.ownsRow _ _ _ _ _ _ _; simpa using hown
    have hB : Hid (Below w.heap.size w w1) := (below_alloc w _).trans ((Below.refl _ _).grown hgrow (by simp) (fun k hk => by simp [Value.ownBlock] at hk; omega))
    clear hown hgrow hnw hq
    go_wp2
    go_ret
    exact ⟨_, rfl, hO.out, hB.out⟩

/-- a list with 77, 78 behind its end -/
def RoomOf (w : World) (v : Value) (xs : List Nat) : Prop := ∃ g cap, v = .slice (some ⟨g, 0, none⟩) xs.length cap ∧ Nums w (.slice (some ⟨g, 0, none⟩) (xs.length + 2) cap) (xs ++ [77, 78])

theorem RoomOf.nums {w : World} {v : Value} {xs : List Nat} (h : RoomOf w v xs) : Nums w v xs := by
  obtain ⟨g, cap, rfl, hN⟩ := h
  have := hN.take xs.length (by simp)
  simpa using this
theorem RoomOf.below {w w' : World} {v : Value} {xs : List Nat} (h : RoomOf w v xs) (hb : Below w.heap.size w w') : RoomOf w' v xs := by
  obtain ⟨g, cap, rfl, hN⟩ := h
  exact ⟨g, cap, rfl, hN.below hb⟩

set_option maxRecDepth 100000 in
set_option maxHeartbeats 400000 in
theorem room_any (v : Value) (xs : List Nat) (w : World) (h : Nums w v xs) (hlen : xs.length ≤ 1000000000) :
    Calls Tryd.prog 8 #[v] w fun e w' => ∃ v', e = .returned v' ∧ RoomOf w' v' xs ∧ Below w.heap.size w w' := by
  obtain ⟨i0, hi, hz0, hz1, hz2⟩ := info_parts Tryd.info32
  have HN := hide h
  obtain ⟨ho, a, cap, rfl, hl, hm, _⟩ := h
  have HO := hide ho
  unfold maxLen at hm
  go_enter Tryd.func8, Tryd.ntmps8
  go_wp2_with fail
  refine (clone_any _ xs _ HN.out hlen).mono ?_
  rintro e w1 ⟨v1, rfl, hO1, hb1⟩
  have HO1 := hide hO1
  clear hO1
  go_wp2_with (at_builtin; refine wpList_append_own _ rfl _ _ 22 rfl w.heap.size 32 i0 (.int .u32 0) 1 4 Tryd.underlying22 hi hz0 hz1 hz2 rfl (by decide) _ _ _ rfl (World.ownsRow.alloc HO1.out _) ⟨w1.heap.size, 0, none⟩ 2 2 (ints [77, 78]) rfl rfl ?c1 (ints_one _) ?c3 ?c4 ?c5 ?_)
  case c1 => exact (nums_lit2 w1 32 77 78 77 78 rfl rfl (by decide) (by decide)).news.2
  case c3 => unfold maxLen; omega
  case c4 => omega
  case c5 => have := hb1.size; simp; omega
  intro v2 w2 hown hgrow _
  have hO2 : Own w2 w.heap.size v2 (xs ++ [77, 78]) := by show World.ownsRow _ _ _ _ _ _ _; rw [ints_append] at hown; simpa using hown
  have HB : Hid (Below w.heap.size w w2) := (hb1.alloc hb1.size _).grown hgrow (by have := hb1.size; simp; omega) (fun k hk => (HO1.out.lt k hk).1)
  obtain ⟨g, cap2, rfl, hg1, hg2, hg3⟩ := own_one hO2 (by simp)
  have HN2 := hide (hO2.nums (HO.out.append (Ok.cons (by decide) (Ok.cons (by decide) Ok.nil))))
  rw [List.length_append] at hg2
  clear hown hgrow hO2
  unfold maxLen at hg3
  simp only [List.length_cons, List.length_nil] at hg2
  go_wp2
  go_ret
  refine ⟨_, rfl, ⟨g, cap2, ?_, ?_⟩, HB.out⟩
  · first | rfl | simp
  · have := HN2.out; simpa using this
end Go.Proofs.YtmibgcpafccliaaDoor
