/- The instructions from behind, as told to a body that trusts their numbers. -/
import Derived.Test.YtheakienigmkhaaPgDep
import Derived.Test.YtheakienigmkhaaPgJoin1
import Derived.Test.YtheakienigmkhaaPgBack1
import Derived.Test.YtheakienigmkhaaPgNMath
import Derived.RangeFuncBound
namespace Go.Proofs.Ytheakienigmkhaa
open Go.RowKit

theorem ot_mem {l : List Int} {k : Nat} (h : k < l.length) : ot l k ∈ l := by rw [ot_lt h]; exact List.getElem_mem h
theorem asks_may {i : Ins} {regs : Int} (h : mayB i regs = true) : ∀ r ∈ asksL i, 0 ≤ r ∧ r < regs := by
  obtain ⟨_, _, m3, m4, m5, m6, _⟩ := may_parts h
  intro r hr
  unfold asksL at hr
  split at hr
  · simp only [List.mem_cons, List.not_mem_nil, or_false] at hr
    rcases hr with rfl | rfl
    · exact ⟨m3, m4⟩
    · exact ⟨m5, m6⟩
  · split at hr
    · simp only [List.mem_cons, List.not_mem_nil, or_false] at hr
      subst hr
      exact ⟨m3, m4⟩
    · cases hr
end Go.Proofs.Ytheakienigmkhaa

namespace Go.Proofs.Ytheakienigmkhaa
open Go.RowKit

def encF (code : List Ins) (x : Fin code.length) : Array Value := encN (x.1, cd code x.1)
theorem tb_bks (code : List Ins) (m : Nat) : (tb code m).map Prod.fst = bks code.length m := by unfold tb bks; rw [List.map_map]; rfl
theorem back_stopsF (n : Nat) (hn : 1 ≤ n) (bx lo hi base : Nat) (v : Value) (code : List Ins) (hm : code.length ≤ 100000) (w : World) (hO : OwnC w base v code) (hlo : lo ≤ base) (hhi : hi = w.heap.size)
    (hx1 : lo ≤ bx) (hx2 : bx < hi) (hc : w.cell? ⟨bx, 0, none⟩ = some v) :
    SeqStopsK Fence.wide n Try.prog 62 #[.pointer (some ⟨bx, 0, none⟩)] (encF code) (Keeps lo hi) (fun ys => ys.map (fun x => x.1) = bks code.length code.length) (fun _ => True) code.length w := by
  intro l J Jx W hW _ _ hY h0
  have hN := OwnC.at hO
  subst hhi
  have key : ∀ (b cap : Nat) (a : Option Addr), W.cell? ⟨bx, 0, none⟩ = some (.slice a code.length cap) → (code ≠ [] → a = some ⟨b, 0, none⟩ ∧ lo ≤ b ∧ b < w.heap.size ∧ ∀ i, i < code.length → InsC W b (i * 5) (cd code i)) →
      CallsIn Fence.wide n Try.prog 62 #[.func (.yield l) #[] #[], .pointer (some ⟨bx, 0, none⟩)] W fun e W' => (∃ v, e = .returned v) ∧ ((∃ ys : List (Fin code.length), ys.map (fun x => x.1) = bks code.length code.length ∧ J ys W') ∨ (∃ pre, True ∧ Jx pre W')) := by
    intro b cap a h1 h2
    refine (back1_in n hn l bx lo _ b cap a code hm hx1 hx2 (fun pre W => ∃ pre' : List (Fin code.length), pre = pre'.map (fun x => (x.1, cd code x.1)) ∧ J pre' W) (fun pre W => ∃ pre' : List (Fin code.length), pre = pre'.map (fun x => (x.1, cd code x.1)) ∧ Jx pre' W) ?_ W h1 h2 ⟨[], rfl, h0⟩).mono ?_
    · rintro pre ⟨k, y⟩ W1 ⟨pre', rfl, hJ⟩ hl ⟨g1, g2⟩
      dsimp only at g1 g2
      subst g2
      rw [List.length_map, tb_length] at hl
      refine YieldAt.mono (hY pre' ⟨k, g1⟩ W1 hJ hl) ?_
      rintro e W' (⟨rfl, hJ', hk⟩ | ⟨rfl, hJ'⟩)
      · exact .inl ⟨rfl, ⟨_, by rw [List.map_append]; rfl, hJ'⟩, hk⟩
      · exact .inr ⟨rfl, ⟨_, by rw [List.map_append]; rfl, hJ'⟩⟩
    · rintro e W' ⟨hv, ⟨ys, rfl, ys', hy, hJ⟩ | ⟨pre, _, pre', _, hJ⟩⟩
      · refine ⟨hv, .inl ⟨ys', ?_, hJ⟩⟩
        rw [← tb_bks, hy, List.map_map]
        rfl
      · exact ⟨hv, .inr ⟨pre', trivial, hJ⟩⟩
  rcases hO.2 with ⟨rfl, h0'⟩ | ⟨g, cap, cur, rfl, hb, hgg, _, _, _, _⟩
  · have e : code = [] := List.eq_nil_of_length_eq_zero h0'
    refine key 0 0 none ?_ (fun h => absurd e h)
    have := (hW.cell (p := ⟨bx, 0, none⟩) hx2).trans hc
    rw [h0']
    exact this
  · have hlt : g < w.heap.size := (Array.getElem?_eq_some_iff.1 hgg).1
    refine key g cap _ ((hW.cell (p := ⟨bx, 0, none⟩) hx2).trans hc) (fun _ => ⟨rfl, Nat.le_trans hlo hb, hlt, fun i hi => ?_⟩)
    obtain ⟨b', off', he, hI⟩ := hN.at hi
    simp only [Option.some.injEq, Addr.mk.injEq, and_true] at he
    obtain ⟨rfl, rfl⟩ := he
    rw [Nat.zero_add] at hI
    exact hI.step hW
end Go.Proofs.Ytheakienigmkhaa
