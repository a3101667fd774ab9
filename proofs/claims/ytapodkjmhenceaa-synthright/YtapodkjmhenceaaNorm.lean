/- limb.Norm answers a new list, without the high noughts; limb.Cmp holds two numbers against each other. -/
import Derived.Test.YtapodkjmhenceaaLists
import Derived.Laws.AppendOwnNone
namespace Go.Proofs.Ytapodkjmhenceaa
open Go.RowKit

theorem Try.info108 : (Try.prog.info? 108).map (fun i => (i.zero, i.size, i.bytes)) = some (some (.int .u32 0), 1, 4) := by kernel_rfl

/-- a new list of limbs -/
def Own (w : World) (base : Nat) (v : Value) (xs : List Nat) : Prop := w.ownsRow base 108 1 v xs.length (ints xs)

theorem Own.nums {w : World} {base : Nat} {v : Value} {xs : List Nat} (h : Own w base v xs) (ho : Ok xs) : Nums w v xs := nums_of_row ho rfl h

set_option maxRecDepth 100000 in
set_option maxHeartbeats 400000 in
theorem norm_any (v : Value) (xs : List Nat) (w : World) (h : Nums w v xs) (hlen : xs.length ≤ 1000000000) :
    Calls Try.prog 118 #[v] w fun e w' => ∃ v', e = .returned v' ∧ Own w' w.heap.size v' (lim (val xs)) ∧ Nums w' v' (lim (val xs)) ∧ Below w.heap.size w w' := by
  obtain ⟨i0, hi, hz0, hz1, hz2⟩ := info_parts Try.info108
  have hle := lim_val_length h.ok
  go_enter Try.func118, Try.ntmps118
  go_wp2_with fail
  refine (trim_any v xs _ h).mono ?_
  rintro e w1 ⟨v1, rfl, rfl, hN1, _⟩
  have HN : Hid (Nums w v1 (lim (val xs))) := hN1
  obtain ⟨_, a, cap, rfl, hl, hm, _⟩ := hN1
  cases a with
  | none =>
    have hnil : (lim (val xs)) = [] := by
      by_cases e : lim (val xs) = []
      · exact e
      · obtain ⟨_, a', cap', he, _, _, h3⟩ := HN.out
        simp only [Value.slice.injEq] at he
        obtain ⟨b, off, hb, _⟩ := h3 e
        rw [hb] at he; simp at he
    go_wp2
    go_ret
    refine ⟨_, rfl, ?_, ?_, Below.refl _ _⟩
    · rw [hnil]; exact World.ownsRow_nil _ _ _ _
    · rw [hnil]; exact Nums.nil_mk _ _ _ (Nat.zero_le _)
  | some ad =>
    go_wp2_with (at_builtin; refine wpList_append_own _ rfl _ _ 29 rfl w.heap.size 108 i0 (.int .u32 0) 1 4 Try.underlying29 hi hz0 hz1 hz2 rfl (by decide) _ _ _ rfl (World.ownsRow_nil _ _ _ _) ad _ _ (ints (lim (val xs))) rfl HN.out.news.1 HN.out.news.2 (ints_one _) ?c3 ?c4 (Nat.le_refl _) ?_)
    case c3 => unfold maxLen; omega
    case c4 => omega
    intro v' w1 hown hgrow _
    have hO : Own w1 w.heap.size v' (lim (val xs)) := by unfold Own; simpa using hown
    have hB : Below w.heap.size w w1 := (Below.refl _ _).grown hgrow (Nat.le_refl _) (fun k hk => by simp [Value.ownBlock] at hk)
    clear hown hgrow
    go_wp2
    go_ret
    exact ⟨_, rfl, hO, hO.nums (ok_lim _), hB⟩

def cmpI (m n : Nat) : Int := if m < n then -1 else if n < m then 1 else 0

end Go.Proofs.Ytapodkjmhenceaa
