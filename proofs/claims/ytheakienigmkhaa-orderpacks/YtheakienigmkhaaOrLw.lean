/- swagelaw16.live, long, empty. -/
import Derived.Test.YtheakienigmkhaaOrAl
namespace Go.Proofs.Ytheakienigmkhaa
open Go.RowKit

def lvP16 : Pg := ⟨1, 9, [], [0]⟩
def lvQ16 : Pg := ⟨1, 1, [], [0]⟩
theorem lv16_right : rightB lvP16 = true := by decide
theorem lv16_pack : packP lvP16 = lvQ16 := by
  have h1 : (packP lvP16).regs = 1 := by decide +kernel
  have h2 : (packP lvP16).code = [] := List.eq_nil_of_length_eq_zero (by decide +kernel)
  have h3 : (packP lvP16).outs = [0] := by decide +kernel
  have h0 : (packP lvP16).ins = 1 := rfl
  cases h : packP lvP16
  rw [h] at h0 h1 h2 h3
  subst h0 h1 h2 h3
  rfl
set_option maxRecDepth 100000 in
set_option maxHeartbeats 8000000 in
theorem lv16_any (w : World) : Calls Try.prog 12 #[] w fun e w' => e = .returned (.bool true) ∧ Below w.heap.size w w' := by
  have b1 := below_alloc w (.cells #[.int .i64 0] 3)
  have C2 := int1 w 0 rfl
  have HP : Hid (PgAt (w.alloc (.cells #[.int .i64 0] 3)) (.agg #[.int .i64 1, .int .i64 9, .slice none 0 0, .slice (some ⟨w.heap.size, 0, none⟩) 1 1]) lvP16) := hide ⟨_, _, _, _, rfl, ⟨_, _, rfl, Nat.le_refl _, Nat.zero_le _, fun h => absurd rfl h⟩, C2⟩
  have HB := hide b1
  clear b1 C2
  go_enter Try.func12, Try.ntmps12
  go_wp2_with fail
  refine (orpack_any _ lvP16 _ HP.out (fun _ => by decide)).mono ?_
  rintro e w2 ⟨hR, hb⟩
  unfold OrPackR at hR
  rw [if_pos lv16_right, lv16_pack] at hR
  obtain ⟨v, rfl, hown⟩ := hR
  have HB2 := hide (HB.out.trans (hb.mono HB.out.size))
  have OQ := hide (hown.at)
  clear hb hown HB HP
  obtain ⟨qa, qc, ra, rc, hv, q1, q2⟩ := OQ.out
  replace hv : v = .agg #[.int .i64 1, .int .i64 1, .slice qa 0 qc, .slice ra 1 rc] := hv
  subst hv
  clear q1 q2
  go_upto_region 2 with fail
  have b1 := below_alloc w2 (.cells #[.int .i64 1, .int .i64 1, .slice qa 0 qc, .slice ra 1 rc] 25)
  have QX : Hid (Box4 (w2.alloc (.cells #[.int .i64 1, .int .i64 1, .slice qa 0 qc, .slice ra 1 rc] 25)) w2.heap.size 25 (.int .i64 1) (.int .i64 1) (.slice qa 0 qc) (.slice ra 1 rc)) := hide (Box4.new w2 25 _ _ _ _)
  replace HB2 := hide (HB2.out.trans (b1.mono HB2.out.size))
  clear b1
  generalize w2.alloc (.cells #[.int .i64 1, .int .i64 1, .slice qa 0 qc, .slice ra 1 rc] 25) = w3 at *
  generalize w2.heap.size = Q at *
  have c0 := QX.out.cell0
  have c1 := QX.out.cell1
  have c3 := QX.out.cell3
  go_wp2
  go_ret
  exact ⟨by first | rfl | simp, HB2.out⟩
def lg16 (p : Pg) : Bool := decide (40 < p.code.length) || decide (40 < p.outs.length)
set_option maxRecDepth 100000 in
set_option maxHeartbeats 4000000 in
theorem lg16_any (v : Value) (p : Pg) (w : World) (h : PgAt w v p) :
    Calls Try.prog 13 #[v] w fun e w' => e = .returned (.bool (lg16 p)) ∧ Below w.heap.size w w' := by
  obtain ⟨ca, cc, oa, oc, rfl, _, _⟩ := h
  unfold lg16
  by_cases q1 : 40 < p.code.length
  · have q1' : (40 : Int) < (p.code.length : Int) := by omega
    go_enter Try.func13, Try.ntmps13
    go_wp2
    go_ret
    exact ⟨by simp [q1], below_alloc _ _⟩
  · have q1' : ¬ (40 : Int) < (p.code.length : Int) := by omega
    by_cases q2 : 40 < p.outs.length
    · have q2' : (40 : Int) < (p.outs.length : Int) := by omega
      go_enter Try.func13, Try.ntmps13
      go_wp2
      go_ret
      exact ⟨by simp, below_alloc _ _⟩
    · have q2' : ¬ (40 : Int) < (p.outs.length : Int) := by omega
      go_enter Try.func13, Try.ntmps13
      go_wp2
      go_ret
      exact ⟨by simp, below_alloc _ _⟩
set_option maxRecDepth 100000 in
set_option maxHeartbeats 4000000 in
theorem empty16_zero (w : World) :
    Calls Try.prog 17 #[.agg #[.int .i64 0, .int .i64 0, .slice none 0 0, .slice none 0 0]] w fun e w' => e = .returned (.bool true) ∧ Below w.heap.size w w' := by
  go_enter Try.func17, Try.ntmps17
  go_wp2
  go_ret
  exact ⟨by first | rfl | simp, below_alloc _ _⟩
end Go.Proofs.Ytheakienigmkhaa
