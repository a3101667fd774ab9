/- swagelaw14.live, long, empty. -/
import Derived.Test.YtclopelniopjkaaShPa
namespace Go.Proofs.Ytclopelniopjkaa
open Go.RowKit

def lvP : Pg := ⟨1, 2, [⟨1, 1, 0, 0, 0⟩], [1]⟩
def lvQ : Pg := ⟨1, 2, [⟨1, 1, 0, 0, 0⟩], [0]⟩
theorem lv_right : rightB lvP = true := by decide
theorem lv_pass : shP lvP = lvQ := by rfl
set_option maxRecDepth 100000 in
set_option maxHeartbeats 8000000 in
theorem lv_any (w : World) : Calls Try.prog 5 #[] w fun e w' => e = .returned (.bool true) ∧ Below w.heap.size w w' := by
  have b1 := below_alloc w (.cells #[.int .i64 1, .int .i64 1, .int .i64 0, .int .i64 0, .int .i64 0] 40)
  have b2 := below_alloc (w.alloc (.cells #[.int .i64 1, .int .i64 1, .int .i64 0, .int .i64 0, .int .i64 0] 40)) (.cells #[.int .i64 1] 3)
  have C1 := code1 w ⟨1, 1, 0, 0, 0⟩ rfl
  have C2 := int1 (w.alloc (.cells #[.int .i64 1, .int .i64 1, .int .i64 0, .int .i64 0, .int .i64 0] 40)) 1 rfl
  simp only [World.size_alloc] at C2
  have HP : Hid (PgAt ((w.alloc (.cells #[.int .i64 1, .int .i64 1, .int .i64 0, .int .i64 0, .int .i64 0] 40)).alloc (.cells #[.int .i64 1] 3)) (.agg #[.int .i64 1, .int .i64 2, .slice (some ⟨w.heap.size, 0, none⟩) 1 1, .slice (some ⟨w.heap.size + 1, 0, none⟩) 1 1]) lvP) := hide ⟨_, _, _, _, rfl, C1.below b2, C2⟩
  have HB := hide (b1.trans (b2.mono b1.size))
  clear b1 b2 C1 C2
  go_enter Try.func5, Try.ntmps5
  go_wp2_with fail
  refine (spass_any _ lvP _ HP.out).mono ?_
  rintro e w2 ⟨hR, hb⟩
  unfold ShPassR at hR
  rw [if_pos lv_right, lv_pass] at hR
  obtain ⟨v, rfl, hown⟩ := hR
  have HB2 := hide (HB.out.trans (hb.mono HB.out.size))
  have OQ := hide (hown.at)
  clear hb hown HB HP
  obtain ⟨qa, qc, ra, rc, hv, q1, q2⟩ := OQ.out
  replace hv : v = .agg #[.int .i64 1, .int .i64 2, .slice qa 1 qc, .slice ra 1 rc] := hv
  subst hv
  obtain ⟨b, off, rfl, k1⟩ := IntsAt.at (l := lvQ.outs) q2 (i := 0) (by decide)
  replace k1 : w2.cell? ⟨b, off, none⟩ = some (.int .i64 0) := k1
  have K1 := hide k1
  clear q1 q2 k1
  go_upto_region 2 with fail
  have b1 := below_alloc w2 (.cells #[.int .i64 1, .int .i64 2, .slice qa 1 qc, .slice (some ⟨b, off, none⟩) 1 rc] 25)
  have QX : Hid (Box4 (w2.alloc (.cells #[.int .i64 1, .int .i64 2, .slice qa 1 qc, .slice (some ⟨b, off, none⟩) 1 rc] 25)) w2.heap.size 25 (.int .i64 1) (.int .i64 2) (.slice qa 1 qc) (.slice (some ⟨b, off, none⟩) 1 rc)) := hide (Box4.new w2 25 _ _ _ _)
  have k2 := (b1.cell (World.block_lt_of_cell? _ _ K1.out)).trans K1.out
  replace HB2 := hide (HB2.out.trans (b1.mono HB2.out.size))
  clear b1 K1
  generalize w2.alloc (.cells #[.int .i64 1, .int .i64 2, .slice qa 1 qc, .slice (some ⟨b, off, none⟩) 1 rc] 25) = w3 at *
  generalize w2.heap.size = Q at *
  have c2 := QX.out.cell2
  have c3 := QX.out.cell3
  go_wp2
  go_ret
  exact ⟨by first | rfl | simp, HB2.out⟩
def lg14 (p : Pg) : Bool := decide (150 < p.code.length) || decide (150 < p.outs.length)
set_option maxRecDepth 100000 in
set_option maxHeartbeats 4000000 in
theorem lg14_any (v : Value) (p : Pg) (w : World) (h : PgAt w v p) :
    Calls Try.prog 6 #[v] w fun e w' => e = .returned (.bool (lg14 p)) ∧ Below w.heap.size w w' := by
  obtain ⟨ca, cc, oa, oc, rfl, _, _⟩ := h
  unfold lg14
  by_cases q1 : 150 < p.code.length
  · have q1' : (150 : Int) < (p.code.length : Int) := by omega
    go_enter Try.func6, Try.ntmps6
    go_wp2
    go_ret
    exact ⟨by simp [q1], below_alloc _ _⟩
  · have q1' : ¬ (150 : Int) < (p.code.length : Int) := by omega
    by_cases q2 : 150 < p.outs.length
    · have q2' : (150 : Int) < (p.outs.length : Int) := by omega
      go_enter Try.func6, Try.ntmps6
      go_wp2
      go_ret
      exact ⟨by simp, below_alloc _ _⟩
    · have q2' : ¬ (150 : Int) < (p.outs.length : Int) := by omega
      go_enter Try.func6, Try.ntmps6
      go_wp2
      go_ret
      exact ⟨by simp, below_alloc _ _⟩
end Go.Proofs.Ytclopelniopjkaa
