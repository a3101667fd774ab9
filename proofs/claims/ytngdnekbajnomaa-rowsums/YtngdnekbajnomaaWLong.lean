/- swagelaw04.long: more than the statements go through. -/
import Derived.Test.YtngdnekbajnomaaWOf
namespace Go.Proofs.Ytngdnekbajnomaa
open Go.RowKit

/-- lists of numbers as they are handed in -/
def NumLL (w : World) (v : Value) (nss : List (List (Bool × List Nat))) : Prop :=
  ∃ a cap, v = .slice a nss.length cap ∧ nss.length ≤ cap ∧ cap ≤ maxLen ∧ (nss ≠ [] → ∃ b off, a = some ⟨b, off, none⟩ ∧ ∀ i, i < nss.length → ∃ u, w.cell? ⟨b, off + i, none⟩ = some u ∧ NumL w u (nss.getD i []))
theorem NumLL.at {w : World} {a : Option Addr} {n cap : Nat} {nss : List (List (Bool × List Nat))} (h : NumLL w (.slice a n cap) nss) {i : Nat} (hi : i < nss.length) :
    ∃ b off, a = some ⟨b, off, none⟩ ∧ ∃ m l c, w.cell? ⟨b, off + i, none⟩ = some (.slice m l c) ∧ l = (nss.getD i []).length ∧ c ≤ 140737488355328 ∧ l ≤ c ∧ NumL w (.slice m l c) (nss.getD i []) := by
  obtain ⟨a', c', he, _, _, h3⟩ := h
  simp only [Value.slice.injEq] at he
  obtain ⟨rfl, _, rfl⟩ := he
  obtain ⟨b, off, rfl, h⟩ := h3 (by intro e; rw [e] at hi; simp at hi)
  obtain ⟨u, k1, k2⟩ := h i hi
  obtain ⟨a2, c2, rfl, q1, q2, _, _⟩ := id k2
  exact ⟨b, off, rfl, a2, _, c2, k1, rfl, q2, q1, k2⟩
/-- not more than 300 -/
def Few (ns : List (Bool × List Nat)) : Prop := ns.length ≤ 300 ∧ ∀ q, q < ns.length → (ns.getD q (false, [])).2.length ≤ 300
def LongB (e : Ending) (nss : List (List (Bool × List Nat))) : Prop := ∃ r, e = .returned (.bool r) ∧ (r = false → ∀ i, i < nss.length → Few (nss.getD i []))

set_option maxRecDepth 100000 in
set_option maxHeartbeats 8000000 in
theorem rlong_any (va : Value) (nss : List (List (Bool × List Nat))) (w : World) (h : NumLL w va nss) :
    Calls Try.prog 5 #[va] w fun e w' => LongB e nss ∧ w' = w := by
  have HI := hide h
  obtain ⟨a, cap, rfl, hcap, hm, _⟩ := h
  unfold maxLen at hm
  go_enter Try.func5, Try.ntmps5
  go_wp2
  go_loopw [3, 4, 5] (fun nv iv _ wr => ∃ i n : Nat, i ≤ nss.length ∧ n ≤ 300 ∧ iv = .int .i64 i ∧ nv = .int .i64 n ∧ wr = w ∧ ∀ j, j < i → Few (nss.getD j [])) (fun _ iv _ _ => nss.length - (intOf iv).toNat)
  case atStart => exact ⟨0, 0, Nat.zero_le _, Nat.zero_le _, rfl, rfl, rfl, fun j h => absurd h (Nat.not_lt_zero _)⟩
  case round =>
    obtain ⟨i, n, hi, hn, rfl, rfl, hwr, hf⟩ := hrel
    obtain rfl : w = wr := hwr.symm
    clear hwr
    have HF := hide hf
    clear hf
    by_cases hlt : i < nss.length
    · obtain ⟨b, off, rfl, m, l, c, k1, k2, k3, k4, k5⟩ := HI.out.at hlt
      have HN := hide k5
      have HL := hide k2
      clear k5 k2
      by_cases hs : 300 < n + l
      · have hs' : (300 : Int) < (n : Int) + (l : Int) := by omega
        go_wp2
        go_ret
        exact ⟨⟨true, rfl, fun h => by cases h⟩, rfl⟩
      · have hs' : ¬ (300 : Int) < (n : Int) + (l : Int) := by omega
        have HS : Hid (l ≤ 300) := hide (by omega)
        go_wp2
        go_loopw [3, 5] (fun nv kv wr => ∃ k n : Nat, k ≤ l ∧ n ≤ 300 ∧ kv = .int .i64 k ∧ nv = .int .i64 n ∧ wr = w ∧ ∀ q, q < k → ((nss.getD i []).getD q (false, [])).2.length ≤ 300) (fun _ kv _ => l - (intOf kv).toNat)
        case atStart => exact ⟨0, n + l, Nat.zero_le _, by omega, rfl, by go_num, rfl, fun j h => absurd h (Nat.not_lt_zero _)⟩
        case round =>
          obtain ⟨k, n', hk, hn', rfl, rfl, hwr, hf⟩ := hrel
          obtain rfl : w = wr := hwr.symm
          clear hwr
          have HQ := hide hf
          clear hf hs hs'
          by_cases hlt2 : k < l
          · obtain ⟨b2, off2, rfl, s, m2, l2, c2, xs, q1, q2, q3, q4⟩ := HN.out.at (by rw [← HL.out]; exact hlt2)
            have e1 := q2.out
            have LX : Hid (l2 = xs.length ∧ l2 ≤ 140737488355328) := hide (by
              obtain ⟨_, _, _, he, _⟩ := q3
              obtain ⟨_, _, _, _, _, hbd, _⟩ := HN.out
              have h1 := hbd k
              rw [q4] at h1
              simp only [Value.slice.injEq] at he
              obtain ⟨_, rfl, _⟩ := he
              exact ⟨rfl, h1⟩)
            have HX := hide q4
            have hlb := LX.out.2
            clear q1 q2 q3 q4
            by_cases hs2 : 300 < n' + l2
            · have hs3 : (300 : Int) < (n' : Int) + (l2 : Int) := by omega
              go_wp2
              go_ret
              exact ⟨⟨true, rfl, fun h => by cases h⟩, rfl⟩
            · have hs3 : ¬ (300 : Int) < (n' : Int) + (l2 : Int) := by omega
              go_wp2
              go_roundw
              case rel => exact ⟨k + 1, n' + l2, by omega, by omega, by go_num, by go_num, by first | trivial | rfl, fun q hq => by
                rcases Nat.lt_or_ge q k with h | h
                · exact HQ.out q h
                · have e : q = k := by omega
                  subst e
                  rw [HX.out]
                  show xs.length ≤ 300
                  have := LX.out.1
                  omega⟩
              case measure => simp [intOf]; omega
          · have e : k = l := by omega
            subst e
            go_wp2
            go_roundw
            case rel => exact ⟨i + 1, n', by omega, hn', by go_num, rfl, by first | trivial | rfl, fun j hj => by
              rcases Nat.lt_or_ge j i with h | h
              · exact HF.out j h
              · have e : j = i := by omega
                subst e
                exact ⟨by have := HL.out; have := HS.out; omega, fun q hq => HQ.out q (by rw [HL.out]; exact hq)⟩⟩
            case measure => simp [intOf]; omega
    · have e : i = nss.length := by omega
      subst e
      go_wp2
      go_ret
      exact ⟨⟨false, rfl, fun _ => HF.out⟩, rfl⟩
end Go.Proofs.Ytngdnekbajnomaa
