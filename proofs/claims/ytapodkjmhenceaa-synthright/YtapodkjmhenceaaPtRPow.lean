/- Points: powers (the document's Powers); swagelaw06.is. -/
import Derived.Test.YtapodkjmhenceaaMul
import Derived.Laws.Bits64b
import Derived.Test.YtapodkjmhenceaaR2Add
import Derived.Lib.BitFns
import Derived.Lib.Small
import Derived.Lib.Strings
import Derived.Lib.Walk
import Derived.Laws.BitsAllLaws
import Derived.Test.YtapodkjmhenceaaNum
import Derived.Test.YtapodkjmhenceaaMem
import Derived.OpenShut
import Derived.Test.YtapodkjmhenceaaBox
import Derived.Test.YtapodkjmhenceaaCalm3
import Derived.Deep.Cut
import Derived.Test.YtapodkjmhenceaaWRow
import Derived.Laws.AppendOwn
import Derived.Test.YtapodkjmhenceaaR2Norm
import Derived.Test.YtapodkjmhenceaaR2Make
import Derived.Test.YtapodkjmhenceaaPtDet
import Derived.Test.YtapodkjmhenceaaCalmL
import Derived.Test.YtapodkjmhenceaaR2Num
import Derived.Test.YtapodkjmhenceaaR2Is
namespace Go.Proofs.Ytapodkjmhenceaa
open Go.RowKit

/-- an owned row with room behind its end -/
def RowC (w : World) (base g n cap : Nat) (xs : List Nat) : Prop := w.ownsRow base 108 1 (.slice (some ⟨g, 0, none⟩) n cap) n (ints xs)
theorem RowC.cell {w : World} {base g n cap : Nat} {xs : List Nat} (h : RowC w base g n cap xs) (hl : xs.length = n) (i : Nat) (hi : i < n) : w.cell? ⟨g, i, none⟩ = some (.int .u32 (lm xs i : Nat)) := by
  rw [World.ownsRow.cellAt h i (by omega), ints_get _ _ (by omega)]
theorem RowC.free {w : World} {base g n cap : Nat} {xs : List Nat} (h : RowC w base g n cap xs) (i : Nat) : w.frozen? ⟨g, i, none⟩ = false := World.ownsRow.frozenAt h i
theorem RowC.set {w : World} {base g n cap : Nat} {xs : List Nat} (h : RowC w base g n cap xs) (i x : Nat) : RowC (w.setCell ⟨g, i, none⟩ (.int .u32 (x : Nat))) base g n cap (xs.set i x) := by
  have := (World.ownsRow.stored h i (.int .u32 (x : Nat))).1
  rw [ints_set] at this; exact this
theorem RowC.nums {w : World} {base g n cap : Nat} {xs : List Nat} (h : RowC w base g n cap xs) (hl : xs.length = n) (ho : Ok xs) : Nums w (.slice (some ⟨g, 0, none⟩) n cap) xs := nums_of_row ho hl h
theorem RowC.ge {w : World} {base g n cap : Nat} {xs : List Nat} (h : RowC w base g n cap xs) : base ≤ g := (World.ownsRow.lt h g rfl).1

/-- a division's state with k limbs to go -/
structure DivAt (xs : List Nat) (d k r : Nat) (qs : List Nat) : Prop where
  len : qs.length = xs.length - k
  ok : Ok qs
  r1 : r < d
  sum : val (xs.drop k) = d * val qs + r

theorem drop_val (xs : List Nat) (k : Nat) (h : k < xs.length) : val (xs.drop k) = lm xs k + BB * val (xs.drop (k + 1)) := by
  rw [List.drop_eq_getElem_cons h, lm_get _ _ h]; simp [val]

theorem DivAt.start (xs : List Nat) (d : Nat) (hd : 0 < d) : DivAt xs d xs.length 0 [] := ⟨by simp, Ok.nil, hd, by simp [val]⟩

theorem quo_lt {r x d : Nat} (hd : 0 < d) (hr : r < d) (hx : x < BB) : (r * BB + x) / d < BB := by
  rw [Nat.div_lt_iff_lt_mul hd]
  have h1 : (r + 1) * BB ≤ d * BB := Nat.mul_le_mul_right _ hr
  rw [Nat.add_mul, Nat.one_mul] at h1
  rw [Nat.mul_comm BB d]
  omega

theorem DivAt.step {xs : List Nat} {d k r : Nat} {qs : List Nat} (h : DivAt xs d (k + 1) r qs) (hx : Ok xs) (hk : k < xs.length) :
    DivAt xs d k ((r * BB + lm xs k) % d) ((r * BB + lm xs k) / d :: qs) := by
  have hr := h.r1
  have hd : 0 < d := by omega
  refine ⟨by simp [h.len]; omega, Ok.cons (quo_lt hd hr (hx.at k)) h.ok, Nat.mod_lt _ hd, ?_⟩
  rw [drop_val xs k hk, h.sum]
  simp only [val]
  have e := Nat.div_add_mod (r * BB + lm xs k) d
  have e1 : BB * (d * val qs + r) = BB * (d * val qs) + r * BB := by rw [Nat.mul_add, Nat.mul_comm BB r]
  have e2 : d * ((r * BB + lm xs k) / d + BB * val qs) = d * ((r * BB + lm xs k) / d) + BB * (d * val qs) := by rw [Nat.mul_add, Nat.mul_left_comm]
  omega

theorem Cut.block {v v' : Value} {n : Nat} (h : Cut v v' n) : v'.ownBlock = v.ownBlock := by
  obtain ⟨a, m, cap, rfl, rfl⟩ := h; cases a <;> rfl

end Go.Proofs.Ytapodkjmhenceaa

namespace Go.Proofs.Ytapodkjmhenceaa
open Go.RowKit

theorem dset_val (out : List Nat) (p d : Nat) (h : p < out.length) : D.val (out.set p d) + 65536 ^ p * lm out p = D.val out + 65536 ^ p * d := by
  induction out generalizing p with
  | nil => simp at h
  | cons x out ih =>
    cases p with
    | zero => simp [D.val, lm]; omega
    | succ p =>
      have := ih p (by simpa using h)
      have e : lm (x :: out) (p + 1) = lm out p := by simp [lm]
      rw [e, List.set_cons_succ]
      simp only [D.val]
      show x + 65536 * D.val (out.set p d) + 65536 ^ (p + 1) * lm out p = x + 65536 * D.val out + 65536 ^ (p + 1) * d
      rw [Nat.pow_succ, Nat.mul_comm (65536 ^ p) 65536, Nat.mul_assoc, Nat.mul_assoc, Nat.add_assoc, Nat.add_assoc, ← Nat.mul_add, ← Nat.mul_add, this]

/-- a product's state: the rows ahead of i, of the row i the digits ahead of j -/
structure ProdAt (xs ys : List Nat) (i j c : Nat) (out : List Nat) : Prop where
  len : out.length = xs.length + ys.length + 1
  ok : D.Ok out
  c1 : c < 65536
  sum : D.val out + 65536 ^ (i + j) * c = D.val (xs.take i) * D.val ys + 65536 ^ i * lm xs i * D.val (ys.take j)
theorem ProdAt.start (xs ys : List Nat) : ProdAt xs ys 0 0 0 (List.replicate (xs.length + ys.length + 1) 0) := by
  refine ⟨by simp, fun x hx => ?_, by decide, ?_⟩
  · rw [List.eq_of_mem_replicate hx]; decide
  · rw [show D.val (List.replicate (xs.length + ys.length + 1) 0) = 0 from D.val_replicate _]; simp [D.val]
theorem ProdAt.step {xs ys : List Nat} {i j c : Nat} {out : List Nat} (h : ProdAt xs ys i j c out) (hx : D.Ok xs) (hy : D.Ok ys) (hp : i + j < out.length) :
    ProdAt xs ys i (j + 1) ((c + lm out (i + j) + lm xs i * lm ys j) / 65536) (out.set (i + j) ((c + lm out (i + j) + lm xs i * lm ys j) % 65536)) := by
  have h1 := dlm_lt hx i
  have h2 := dlm_lt hy j
  have h3 := dlm_lt h.ok (i + j)
  have h4 := h.c1
  have h5 : lm xs i * lm ys j ≤ 65535 * 65535 := Nat.mul_le_mul (by omega) (by omega)
  refine ⟨by rw [List.length_set]; exact h.len, h.ok.set _ _ (Nat.mod_lt _ (by decide)), by omega, ?_⟩
  have e := dset_val out (i + j) ((c + lm out (i + j) + lm xs i * lm ys j) % 65536) hp
  have em := Nat.mod_add_div (c + lm out (i + j) + lm xs i * lm ys j) 65536
  rw [dtake_succ, show i + (j + 1) = i + j + 1 from by omega, Nat.pow_succ]
  have hs := h.sum
  have e1 : 65536 ^ (i + j) * ((c + lm out (i + j) + lm xs i * lm ys j) % 65536) + 65536 ^ (i + j) * 65536 * ((c + lm out (i + j) + lm xs i * lm ys j) / 65536) = 65536 ^ (i + j) * c + 65536 ^ (i + j) * lm out (i + j) + 65536 ^ (i + j) * (lm xs i * lm ys j) := by
    rw [Nat.mul_assoc, ← Nat.mul_add, em, Nat.mul_add, Nat.mul_add]
  have e2 : 65536 ^ i * lm xs i * (D.val (ys.take j) + 65536 ^ j * lm ys j) = 65536 ^ i * lm xs i * D.val (ys.take j) + 65536 ^ (i + j) * (lm xs i * lm ys j) := by
    rw [Nat.mul_add, Nat.pow_add]
    congr 1
    rw [Nat.mul_assoc, Nat.mul_assoc]
    congr 1
    rw [← Nat.mul_assoc, ← Nat.mul_assoc, Nat.mul_comm (lm xs i)]
  rw [e2]
  omega
theorem ProdAt.last {xs ys : List Nat} {i j : Nat} {out : List Nat} (h : ProdAt xs ys i j 0 out) (hj : ys.length ≤ j) : ProdAt xs ys (i + 1) 0 0 out := by
  refine ⟨h.len, h.ok, by decide, ?_⟩
  have := h.sum
  rw [List.take_of_length_le hj, Nat.mul_zero, Nat.add_zero] at this
  rw [this, dtake_succ, List.take_zero]
  simp only [D.val, Nat.mul_zero, Nat.add_zero]
  rw [Nat.add_mul]
theorem ProdAt.whole {xs ys : List Nat} {i : Nat} {out : List Nat} (h : ProdAt xs ys i 0 0 out) (hi : xs.length ≤ i) : D.val out = D.val xs * D.val ys := by
  have := h.sum
  rw [List.take_of_length_le hi, List.take_zero] at this
  simpa [D.val] using this
theorem dtake_le (ys : List Nat) (j : Nat) : D.val (ys.take j) ≤ D.val ys := by
  have := D.val_append (ys.take j) (ys.drop j)
  rw [List.take_append_drop] at this
  omega
theorem ProdAt.room {xs ys : List Nat} {i j c : Nat} {out : List Nat} (h : ProdAt xs ys i j c out) (hx : D.Ok xs) (hy : D.Ok ys) (hc : 0 < c) : j ≤ ys.length := by
  have h1 : D.val (xs.take (i + 1)) < 65536 ^ (i + 1) := Nat.lt_of_lt_of_le (D.val_lt (hx.take (i + 1))) (Nat.pow_le_pow_right (by decide) (by rw [List.length_take]; omega))
  have h2 : D.val ys < 65536 ^ ys.length := D.val_lt hy
  have h3 : D.val (xs.take (i + 1)) * D.val ys < 65536 ^ (i + 1) * 65536 ^ ys.length := Nat.mul_lt_mul_of_lt_of_le h1 (Nat.le_of_lt h2) (Nat.pow_pos (by decide))
  rw [dtake_succ, Nat.add_mul, ← Nat.pow_add] at h3
  have h4 : 65536 ^ i * lm xs i * D.val (ys.take j) ≤ 65536 ^ i * lm xs i * D.val ys := Nat.mul_le_mul_left _ (dtake_le ys j)
  have h5 : 65536 ^ (i + j) ≤ 65536 ^ (i + j) * c := Nat.le_mul_of_pos_right _ hc
  have hs := h.sum
  have h6 : 65536 ^ (i + j) < 65536 ^ (i + 1 + ys.length) := by omega
  have := (Nat.pow_lt_pow_iff_right (by decide)).1 h6
  omega

theorem mul2_next {W0 wq : World} {T n i j c : Nat} {X Y out : List Nat} {s : Int} (hat : ProdAt X Y i j c out) (hx : D.Ok X) (hy : D.Ok Y) (hp : i + j < out.length) (hrow : RowC wq T T n n out) (hbel : Below T W0 wq) (hs : s = ((c + lm out (i + j) + lm X i * lm Y j : Nat) : Int)) :
    ProdAt X Y i (j + 1) ((c + lm out (i + j) + lm X i * lm Y j) / 65536) (out.set (i + j) ((c + lm out (i + j) + lm X i * lm Y j) % 65536)) ∧ Value.int .u64 (s / 65536) = .int .u64 ((c + lm out (i + j) + lm X i * lm Y j) / 65536 : Nat) ∧
      RowC (wq.setCell ⟨T, i + j, none⟩ (.int .u32 (s % 65536))) T T n n (out.set (i + j) ((c + lm out (i + j) + lm X i * lm Y j) % 65536)) ∧ Below T W0 (wq.setCell ⟨T, i + j, none⟩ (.int .u32 (s % 65536))) := by
  have e : s % 65536 = (((c + lm out (i + j) + lm X i * lm Y j) % 65536 : Nat) : Int) := by rw [hs, Int.natCast_emod]; rfl
  have e' : s / 65536 = (((c + lm out (i + j) + lm X i * lm Y j) / 65536 : Nat) : Int) := by rw [hs, Int.natCast_ediv]; rfl
  refine ⟨hat.step hx hy hp, by rw [e'], ?_, hbel.setCell (p := ⟨T, i + j, none⟩) (Nat.le_refl _) _⟩
  rw [e]; exact hrow.set _ _

set_option maxRecDepth 100000 in
set_option maxHeartbeats 4000000 in
theorem rmul2_any (v1 v2 : Value) (x y : Int) (w : World) (h1 : RInt w v1 x) (h2 : RInt w v2 y) (l1 : (D.lim x.natAbs).length ≤ 100000000) (l2 : (D.lim y.natAbs).length ≤ 100000000) :
    Calls Try.prog 54 #[v1, v2] w fun e w' => ∃ v', e = .returned v' ∧ RInt w' v' (x * y) ∧ Below w.heap.size w w' := by
  obtain ⟨i0, hi, hz0, hz1, hz2⟩ := info_parts Try.info108
  obtain ⟨b1, n1, a1, c1, rfl, hn1, rfl, h01⟩ := h1
  obtain ⟨b2, n2, a2, c2, rfl, hn2, rfl, h02⟩ := h2
  have HE := hide (nboxes3 35 w (.bool b1) (.slice a1 (D.lim n1).length c1) (.bool b2) (.slice a2 (D.lim n2).length c2) (.bool false) (.slice none 0 0))
  have HN1 := hide (hn1.below HE.out.2.2.2)
  have HN2 := hide (hn2.below HE.out.2.2.2)
  rw [sg_abs] at l1 l2
  have HV1 := hide (D.val_lim n1)
  have HV2 := hide (D.val_lim n2)
  have HX := hide (D.ok_lim n1)
  have HY := hide (D.ok_lim n2)
  clear hn1 h01 hn2 h02
  obtain ⟨X, hX⟩ : ∃ X, X = D.lim n1 := ⟨_, rfl⟩
  obtain ⟨Y, hY⟩ : ∃ Y, Y = D.lim n2 := ⟨_, rfl⟩
  rw [← hX] at HE HN1 HN2 HV1 HX l1
  rw [← hY] at HE HN1 HN2 HV2 HY l2
  rw [← hX, ← hY]
  clear hX hY
  obtain ⟨_, a', c', he1, _, hm1, hcc1⟩ := HN1.out
  obtain ⟨_, a'', c'', he2, _, hm2, hcc2⟩ := HN2.out
  simp only [Value.slice.injEq] at he1 he2
  obtain ⟨rfl, _, rfl⟩ := he1
  obtain ⟨rfl, _, rfl⟩ := he2
  have HC1 := hide hcc1
  have HC2 := hide hcc2
  unfold maxLen at hm1 hm2
  clear hcc1 hcc2
  go_enter Try.func54, Try.ntmps54
  have HTS : Hid (w.heap.size + 1 + 1 + 1 = (((w.alloc (.cells #[.bool b1, .slice a1 X.length c1] 35)).alloc (.cells #[.bool b2, .slice a2 Y.length c2] 35)).alloc (.cells #[.bool false, .slice none 0 0] 35)).heap.size) := hide (by simp)
  go_wp2_with (at_make; refine wpList_make_full _ rfl _ _ 29 rfl (w.heap.size + 1 + 1 + 1) 108 i0 (.int .u32 0) 1 Try.underlying29 hi hz0 hz1 _ _ _ _ (X.length + Y.length + 1) rfl rfl ?_ ?_ ?_ ?_ ?_ ?_)
  · omega
  · omega
  · rw [hz2]; omega
  · unfold maxLen; omega
  · exact Nat.le_of_eq HTS.out
  intro w1 hown hgrow
  have HB1 : Hid (Below (w.heap.size + 1 + 1 + 1) (((w.alloc (.cells #[.bool b1, .slice a1 X.length c1] 35)).alloc (.cells #[.bool b2, .slice a2 Y.length c2] 35)).alloc (.cells #[.bool false, .slice none 0 0] 35)) w1) := hide ((Below.refl _ _).grown hgrow (Nat.le_of_eq HTS.out) (fun k hk => by simp at hk))
  have HR1 : Hid (RowC w1 (w.heap.size + 1 + 1 + 1) (w.heap.size + 1 + 1 + 1) (X.length + Y.length + 1) (X.length + Y.length + 1) (List.replicate (X.length + Y.length + 1) 0)) := hide (by rw [made_fil] at hown; unfold RowC; simpa [fil] using hown)
  clear hown hgrow
  obtain ⟨W0, hW0⟩ : ∃ W0, W0 = ((w.alloc (.cells #[.bool b1, .slice a1 X.length c1] 35)).alloc (.cells #[.bool b2, .slice a2 Y.length c2] 35)).alloc (.cells #[.bool false, .slice none 0 0] 35) := ⟨_, rfl⟩
  rw [← hW0] at HE HN1 HN2 HC1 HC2 HTS HB1
  clear hW0
  obtain ⟨T, hT⟩ : ∃ T, T = w.heap.size + 1 + 1 + 1 := ⟨_, rfl⟩
  have HTV := hide hT
  rw [← hT] at HTS HB1 HR1 ⊢
  go_wp2
  clear hT
  go_loopw [6] (fun iv wr => ∃ (i : Nat) (out : List Nat), i ≤ X.length ∧ iv = .int .i64 i ∧ ProdAt X Y i 0 0 out ∧ RowC wr T T (X.length + Y.length + 1) (X.length + Y.length + 1) out ∧ Below T W0 wr) (fun iv _ => X.length - (intOf iv).toNat)
  case atStart => exact ⟨0, _, Nat.zero_le _, rfl, ProdAt.start X Y, HR1.out, HB1.out⟩
  case round =>
    clear HR1 HB1
    obtain ⟨i, out, hiX, rfl, hat, hrow, hbel⟩ := hrel
    have HAT := hide hat
    have HRW := hide hrow
    have HBE := hide hbel
    have HXB := hide (HE.out.1.below hbel (by have := HTV.out; omega))
    have HYB := hide (HE.out.2.1.below hbel (by have := HTV.out; omega))
    have hxb := HXB.out.cell1
    clear hat hrow hbel
    by_cases hlt : i < X.length
    · go_wp2
      go_loopw [7, 8] (fun cv jv wx => ∃ (j c : Nat) (out : List Nat), j ≤ Y.length + 1 ∧ jv = .int .i64 j ∧ cv = .int .u64 c ∧ c < 65536 ∧ Hid (j ≤ Y.length ∨ c = 0) ∧ ProdAt X Y i j c out ∧ RowC wx T T (X.length + Y.length + 1) (X.length + Y.length + 1) out ∧ Below T W0 wx) (fun _ jv _ => Y.length + 1 - (intOf jv).toNat)
      case atStart => exact ⟨0, 0, out, by omega, rfl, rfl, by omega, .inr rfl, HAT.out, HRW.out, HBE.out⟩
      case round =>
        clear HXB HYB hxb HAT HRW HBE
        obtain ⟨j, c, out, hj, rfl, rfl, hc, HJ, hat, hrow, hbel⟩ := hrel
        have HAT := hide hat
        have HRW := hide hrow
        have HBE := hide hbel
        have HXB := hide (HE.out.1.below hbel (by have := HTV.out; omega))
        have HYB := hide (HE.out.2.1.below hbel (by have := HTV.out; omega))
        have hxb := HXB.out.cell1
        have hyb := HYB.out.cell1
        have HRM := hide (fun h => hat.room HX.out HY.out h)
        have HLN := hide hat.len
        by_cases hgo : j < Y.length ∨ 0 < c
        · have hjY : j ≤ Y.length := by
            rcases hgo with h | h
            · omega
            · exact HRM.out h
          have hfr := hrow.free (i + j)
          have hcl := hrow.cell hat.len (i + j) (by omega)
          have ho1 := dlm_lt hat.ok (i + j)
          have hx1 := dlm_lt HX.out i
          have hy1 := dlm_lt HY.out j
          clear hat hrow hbel
          obtain ⟨B1, o1, rfl, hxc⟩ := HC1.out (ne_nil hlt)
          have hxk : wr.cell? ⟨B1, o1 + i, none⟩ = some (.int .u32 (lm X i : Nat)) := by
            have h0 := hxc i hlt
            have hb0 := World.block_lt_of_cell? W0 _ h0
            rw [HBE.out.cell (by rw [HTS.out]; exact hb0)]; exact h0
          clear hxc
          by_cases hlj : j < Y.length
          · obtain ⟨B2, o2, rfl, hyc⟩ := HC2.out (ne_nil hlj)
            have hyk : wr.cell? ⟨B2, o2 + j, none⟩ = some (.int .u32 (lm Y j : Nat)) := by
              have h0 := hyc j hlj
              have hb0 := World.block_lt_of_cell? W0 _ h0
              rw [HBE.out.cell (by rw [HTS.out]; exact hb0)]; exact h0
            clear hyc
            have hp1 : (lm X i : Int) * (lm Y j : Int) ≤ 4294836225 := by
              have : lm X i * lm Y j ≤ 65535 * 65535 := Nat.mul_le_mul (by omega) (by omega)
              have e : ((lm X i * lm Y j : Nat) : Int) = (lm X i : Int) * (lm Y j : Int) := Int.natCast_mul _ _
              omega
            have hp0 : 0 ≤ (lm X i : Int) * (lm Y j : Int) := Int.mul_nonneg (by omega) (by omega)
            have hltI : (i : Int) < (X.length : Int) := by omega
            have hljI : (j : Int) < (Y.length : Int) := by omega
            go_wp2
            go_quiet (fail)
            go_wp2
            obtain ⟨k1, k2, k3, k4⟩ := mul2_next (wq := wr.drewN nq) (s := (c : Int) + (lm out (i + j) : Int) + (lm X i : Int) * (lm Y j : Int)) HAT.out HX.out HY.out (by rw [HLN.out]; omega) HRW.out (below_drewN HBE.out _) (by rw [Int.natCast_add, Int.natCast_add, Int.natCast_mul])
            have K1 := hide k1
            have K2 := hide k2
            have K3 := hide k3
            have K4 := hide k4
            clear k1 k2 k3 k4
            go_roundw
            case rel => exact ⟨j + 1, _, _, by omega, by go_num, K2.out, K1.out.c1, .inl (by omega), K1.out, K3.out, K4.out⟩
            case measure => simp [intOf]; omega
          · have hcp : 0 < c := by rcases hgo with h | h; exact absurd h hlj; exact h
            have HZY := hide (lm_over Y j (by omega))
            go_wp2
            obtain ⟨k1, k2, k3, k4⟩ := mul2_next (wq := wr) (s := (c : Int) + (lm out (i + j) : Int)) HAT.out HX.out HY.out (by rw [HLN.out]; omega) HRW.out HBE.out (by rw [HZY.out, Nat.mul_zero, Nat.add_zero, Int.natCast_add])
            have K1 := hide k1
            have K2 := hide k2
            have K3 := hide k3
            have K4 := hide k4
            have HC0 : Hid ((c + lm out (i + j) + lm X i * lm Y j) / 65536 = 0) := hide (by
              have h1 := K1.out
              rcases Nat.eq_zero_or_pos ((c + lm out (i + j) + lm X i * lm Y j) / 65536) with h | h
              · exact h
              · have := h1.room HX.out HY.out h; omega)
            clear k1 k2 k3 k4
            go_roundw
            case rel => exact ⟨j + 1, _, _, by omega, by go_num, K2.out, K1.out.c1, .inr HC0.out, K1.out, K3.out, K4.out⟩
            case measure => simp [intOf]; omega
        · have hc0 : c = 0 := by omega
          have hjY : Y.length ≤ j := by omega
          subst hc0
          clear hat hrow hbel
          go_wp2
          go_roundw
          case rel => exact ⟨i + 1, out, by omega, by go_num, HAT.out.last hjY, HRW.out, HBE.out⟩
          case measure => simp [intOf]; omega
    · have e : i = X.length := by omega
      subst e
      have hx0 := HXB.out.cell0
      have hy0 := HYB.out.cell0
      have HOW := hide (HRW.out.nums HAT.out.len (dok HAT.out.ok))
      have HWV := hide (HAT.out.whole (Nat.le_refl _))
      have HRB := hide (HE.out.2.2.1.below HBE.out (by have := HTV.out; omega))
      have HBW := hide (HE.out.2.2.2.trans (HBE.out.mono (by have := HTV.out; omega)))
      go_wp2_with fail
      refine (rnorm2_any (b1 != b2) _ out _ HOW.out HAT.out.ok).mono ?_
      rintro e w2 ⟨v2', rfl, ⟨b', n', a'', c'', rfl, hn', he, h0⟩, hb2⟩
      have HX2 := hide (HRB.out.step hb2)
      have HB2 := hide (HBW.out.trans (hb2.mono HBW.out.size))
      clear hb2 hx0 hy0 hxb
      have hc0 := HX2.out.cell0
      have hc1 := HX2.out.cell1
      have hf0 := HX2.out.free 0
      have hf1 := HX2.out.free 1
      go_wp2
      refine ret_ref rfl (w.heap.size + 1 + 1) _ _ _ _ rfl ((HX2.out.set0 _).set1 _) rfl ?_
      refine rhanded HX2.out (by simp) (by simp) (by omega) HB2.out hn' ?_ h0
      rw [← he, HWV.out, HV1.out, HV2.out, sg_mul]
end Go.Proofs.Ytapodkjmhenceaa

namespace Go.Proofs.Ytapodkjmhenceaa
open Go.RowKit

structure RVar (w : World) (g : Nat) (s : Bool) (m : Option Addr) (n c : Nat) (z : Int) : Prop where
  box : Box2 w g 35 (.bool s) (.slice m n c)
  int : RInt w (.agg #[.bool s, .slice m n c]) z
theorem RVar.step {w w' : World} {g : Nat} {s : Bool} {m : Option Addr} {n c : Nat} {z : Int} (h : RVar w g s m n c z) (hb : Below w.heap.size w w') : RVar w' g s m n c z := ⟨h.box.step hb, h.int.below hb⟩
theorem RVar.drew {w : World} {g : Nat} {s : Bool} {m : Option Addr} {n c : Nat} {z : Int} (h : RVar w g s m n c z) : RVar w.drew g s m n c z := ⟨h.box.drew, h.int.drew⟩
theorem SzI.dlen {k : Nat} {z : Int} (h : SzI k z) (hk : 2 * k ≤ 100000000) : (D.lim z.natAbs).length ≤ 100000000 := by
  refine Nat.le_trans (D.lim_length_le (k := 2 * k) ?_) hk
  have : BB ^ k = D.BB ^ (2 * k) := bb_pow k
  unfold SzI at h
  rw [← this]; exact h
theorem SzI.word {c : Int} (hlo : -9223372036854775808 ≤ c) (hhi : c ≤ 9223372036854775807) : SzI 2 c := by
  unfold SzI BB; omega
end Go.Proofs.Ytapodkjmhenceaa

namespace Go.Proofs.Ytapodkjmhenceaa
open Go.RowKit

/-- a product's state behind k limbs -/
structure TimesAt (xs : List Nat) (c d k q : Nat) (acc : List Nat) : Prop where
  len : acc.length = k
  ok : Ok acc
  q1 : q < BB
  sum : val acc + BB ^ k * q = c * val (xs.take k) + d

theorem TimesAt.zero (xs : List Nat) (c d : Nat) (hd : d < BB) : TimesAt xs c d 0 d [] := ⟨rfl, Ok.nil, hd, by simp [val]⟩

theorem TimesAt.step {xs : List Nat} {c d k q : Nat} {acc : List Nat} (h : TimesAt xs c d k q acc) (hx : lm xs k < BB) (hc : c < BB) :
    TimesAt xs c d (k + 1) ((q + lm xs k * c) / BB) (acc ++ [(q + lm xs k * c) % BB]) := by
  have hq := h.q1
  have hm := mul_bound _ _ hx hc
  refine ⟨by simp [h.len], h.ok.append (Ok.cons (Nat.mod_lt _ BB_pos) Ok.nil), ?_, ?_⟩
  · rw [Nat.div_lt_iff_lt_mul BB_pos]; unfold BB at *; omega
  · rw [take_succ_any, val_append, h.len, Nat.pow_succ]
    simp only [val, Nat.mul_zero, Nat.add_zero]
    have hs := h.sum
    have e : BB ^ k * ((q + lm xs k * c) % BB) + BB ^ k * BB * ((q + lm xs k * c) / BB) = BB ^ k * (q + lm xs k * c) := by
      rw [Nat.mul_assoc, ← Nat.mul_add, Nat.mod_add_div]
    have e2 : BB ^ k * (q + lm xs k * c) = BB ^ k * q + BB ^ k * (lm xs k * c) := Nat.mul_add _ _ _
    have e3 : c * (val (xs.take k) + BB ^ k * lm xs k) = c * val (xs.take k) + BB ^ k * (lm xs k * c) := by
      rw [Nat.mul_add, Nat.mul_left_comm, Nat.mul_comm c (lm xs k)]
    omega

end Go.Proofs.Ytapodkjmhenceaa

namespace Go.Proofs.Ytapodkjmhenceaa
open Go.RowKit

/-- block g holds the row R1 P R2, none of it frozen -/
def Seg (w : World) (base g N cap : Nat) (R : List Nat) : Prop := RowC w base g N cap R ∧ R.length = N

theorem Seg.cell {w : World} {base g N cap : Nat} {R : List Nat} (h : Seg w base g N cap R) (i : Nat) (hi : i < N) : w.cell? ⟨g, i, none⟩ = some (.int .u32 (lm R i : Nat)) := h.1.cell h.2 i hi
theorem Seg.free {w : World} {base g N cap : Nat} {R : List Nat} (h : Seg w base g N cap R) (i : Nat) : w.frozen? ⟨g, i, none⟩ = false := h.1.free i
theorem Seg.set {w : World} {base g N cap : Nat} {R R' : List Nat} (h : Seg w base g N cap R) (i x : Nat) (e : R.set i x = R') : Seg (w.setCell ⟨g, i, none⟩ (.int .u32 (x : Nat))) base g N cap R' := by
  subst e
  exact ⟨h.1.set i x, by rw [List.length_set]; exact h.2⟩
theorem Seg.lt {w : World} {base g N cap : Nat} {R : List Nat} (h : Seg w base g N cap R) : g < w.heap.size := (World.ownsRow.lt h.1 g rfl).2

/-- a carry that goes up: each limb is f k and the carry -/
structure UpAt (F : Nat → Nat) (k q : Nat) (A : List Nat) : Prop where
  len : A.length = k
  ok : Ok A
  sum : val A + BB ^ k * q = F k

/-- so many bits are wanted for x -/
def IsLen (x L : Nat) : Prop := x < 2 ^ L ∧ (0 < x → 1 ≤ L ∧ 2 ^ (L - 1) ≤ x)

theorem isLen8 : ∀ n : Fin 256, IsLen n.val (Lib.len8tab.data.getD n.val 0).toNat ∧ (Lib.len8tab.data.getD n.val 0).toNat ≤ 8 := by unfold IsLen; decide +kernel
theorem tab_size : Lib.len8tab.size = 256 := by decide +kernel
theorem get_data (s : ByteArray) (i : Nat) (h : i < s.size) : s.data.getD i 0 = s[i] := by
  have h' : i < s.data.size := h
  rw [Array.getD, dif_pos h']; rfl
theorem tab_len {i : Nat} (h : i < Lib.len8tab.size) : IsLen i Lib.len8tab[i].toNat ∧ Lib.len8tab[i].toNat ≤ 8 := by
  have h2 : i < 256 := by rw [tab_size] at h; exact h
  have := isLen8 ⟨i, h2⟩
  rw [get_data _ i h] at this
  exact this
theorem w64_len (c : Int) (t : Nat) (hc : 0 ≤ c) (hc2 : c ≤ 24) (ht : t ≤ 8) : wrap64 (c + wrap64 (t : Int)) = c + (t : Int) := by
  unfold wrap64; omega
theorem IsLen.shift {x b L : Nat} (h : IsLen (x / 2 ^ b) L) (hp : 0 < x / 2 ^ b) : IsLen x (b + L) := by
  obtain ⟨h1, h2⟩ := h
  obtain ⟨h3, h4⟩ := h2 hp
  have hb : 0 < 2 ^ b := Nat.two_pow_pos b
  refine ⟨?_, fun _ => ⟨by omega, ?_⟩⟩
  · rw [Nat.div_lt_iff_lt_mul hb, ← Nat.pow_add] at h1; rw [Nat.add_comm]; exact h1
  · rw [Nat.le_div_iff_mul_le hb, ← Nat.pow_add] at h4
    rw [show b + L - 1 = L - 1 + b from by omega]; exact h4
theorem tab_up {x L b : Nat} (hx : 0 < x / 2 ^ b) (h : IsLen (x / 2 ^ b) L ∧ L ≤ 8) (hb : b ≤ 24) : IsLen x (b + L) ∧ b + L ≤ 32 := ⟨h.1.shift hx, by omega⟩

set_option maxRecDepth 100000 in
set_option maxHeartbeats 4000000 in
theorem len32_any (x : Int) (w : World) (h0 : 0 ≤ x) (h1 : x ≤ 4294967295) :
    Calls Try.prog 121 #[.int .u32 x] w fun e w' => ∃ L : Nat, e = .returned (.int .i64 (L : Nat)) ∧ IsLen x.toNat L ∧ L ≤ 32 ∧ w = w' := by
  have hs := tab_size
  go_enter Try.func121, Try.ntmps121
  go_wp2
  all_goals go_ret
  · have hi : (x / 65536 / 256).toNat < Lib.len8tab.size := by rw [hs]; omega
    have h := tab_len hi
    have e : (x / 65536 / 256).toNat = x.toNat / 2 ^ 24 := by rw [show (2 : Nat) ^ 24 = 16777216 from by decide]; omega
    generalize Lib.len8tab[(x / 65536 / 256).toNat].toNat = t at h ⊢
    rw [e] at h
    obtain ⟨h2, h3⟩ := tab_up (by rw [← e]; omega) h (Nat.le_refl _)
    exact ⟨24 + t, congrArg Ending.returned (congrArg (Value.int .i64) (w64_len 24 t (by omega) (by omega) h.2)), h2, h3, rfl⟩
  · have hi : (x / 65536).toNat < Lib.len8tab.size := by rw [hs]; omega
    have h := tab_len hi
    have e : (x / 65536).toNat = x.toNat / 2 ^ 16 := by rw [show (2 : Nat) ^ 16 = 65536 from by decide]; omega
    generalize Lib.len8tab[(x / 65536).toNat].toNat = t at h ⊢
    rw [e] at h
    obtain ⟨h2, h3⟩ := tab_up (by rw [← e]; omega) h (by omega)
    exact ⟨16 + t, congrArg Ending.returned (congrArg (Value.int .i64) (w64_len 16 t (by omega) (by omega) h.2)), h2, h3, rfl⟩
  · have hi : (x / 256).toNat < Lib.len8tab.size := by rw [hs]; omega
    have h := tab_len hi
    have e : (x / 256).toNat = x.toNat / 2 ^ 8 := by rw [show (2 : Nat) ^ 8 = 256 from by decide]; omega
    generalize Lib.len8tab[(x / 256).toNat].toNat = t at h ⊢
    rw [e] at h
    obtain ⟨h2, h3⟩ := tab_up (by rw [← e]; omega) h (by omega)
    exact ⟨8 + t, congrArg Ending.returned (congrArg (Value.int .i64) (w64_len 8 t (by omega) (by omega) h.2)), h2, h3, rfl⟩
  · have hi : x.toNat < Lib.len8tab.size := by rw [hs]; omega
    have h := tab_len hi
    generalize Lib.len8tab[x.toNat].toNat = t at h ⊢
    refine ⟨t, congrArg Ending.returned (congrArg (Value.int .i64) ?_), h.1, by omega, rfl⟩
    have := w64_len 0 t (by omega) (by omega) h.2
    simpa using this

end Go.Proofs.Ytapodkjmhenceaa

namespace Go.Proofs.Ytapodkjmhenceaa
open Go.RowKit

/-- the bits of a digit, counted one by one -/
structure DCnt (t i x : Nat) : Prop where
  eq : x = t / 2 ^ i
  pos : 1 ≤ i → 0 < t / 2 ^ (i - 1)
theorem DCnt.step {t i x : Nat} (h : DCnt t i x) (hx : 0 < x) : DCnt t (i + 1) (x / 2) :=
  ⟨by rw [h.eq, Nat.div_div_eq_div_mul, ← Nat.pow_succ], fun _ => by rw [Nat.add_sub_cancel, ← h.eq]; exact hx⟩
theorem DCnt.end {t i : Nat} (h : DCnt t i 0) : IsLen t i := by
  have hp : 0 < 2 ^ i := Nat.two_pow_pos i
  have h1 : t < 2 ^ i := by
    have := h.eq
    rcases Nat.lt_or_ge t (2 ^ i) with h' | h'
    · exact h'
    · have := Nat.div_pos h' hp; omega
  refine ⟨h1, fun ht => ?_⟩
  rcases Nat.eq_zero_or_pos i with e | e
  · rw [e] at h1; simp at h1; omega
  · have := h.pos e
    exact ⟨e, (Nat.div_pos_iff.1 this).2⟩
end Go.Proofs.Ytapodkjmhenceaa

namespace Go.Proofs.Ytapodkjmhenceaa
open Go.RowKit

theorem w64_len2 (c : Int) (t : Nat) (hc : 0 ≤ c) (hc2 : c ≤ 56) (ht : t ≤ 8) : wrap64 (c + wrap64 (t : Int)) = c + (t : Int) := by
  unfold wrap64; omega
theorem tab_up2 {x L b : Nat} (hx : 0 < x / 2 ^ b) (h : IsLen (x / 2 ^ b) L ∧ L ≤ 8) (hb : b ≤ 56) : IsLen x (b + L) ∧ b + L ≤ 64 := ⟨h.1.shift hx, by omega⟩

set_option maxRecDepth 100000 in
set_option maxHeartbeats 8000000 in
theorem len64_any (x : Int) (w : World) (h0 : 0 ≤ x) (h1 : x ≤ 18446744073709551615) :
    Calls Try.prog 122 #[.int .u64 x] w fun e w' => ∃ L : Nat, e = .returned (.int .i64 (L : Nat)) ∧ IsLen x.toNat L ∧ L ≤ 64 ∧ w' = w := by
  have hs := tab_size
  go_enter Try.func122, Try.ntmps122
  go_wp2
  all_goals go_ret
  · have hi : (x / 4294967296 / 65536 / 256).toNat < Lib.len8tab.size := by rw [hs]; omega
    have h := tab_len hi
    have e : (x / 4294967296 / 65536 / 256).toNat = x.toNat / 2 ^ 56 := by rw [show (2 : Nat) ^ 56 = 72057594037927936 from by decide]; omega
    generalize Lib.len8tab[(x / 4294967296 / 65536 / 256).toNat].toNat = t at h ⊢
    rw [e] at h
    obtain ⟨h2, h3⟩ := tab_up2 (by rw [← e]; omega) h (by omega)
    exact ⟨56 + t, congrArg Ending.returned (congrArg (Value.int .i64) (w64_len2 56 t (by omega) (by omega) h.2)), h2, h3, rfl⟩
  · have hi : (x / 4294967296 / 65536).toNat < Lib.len8tab.size := by rw [hs]; omega
    have h := tab_len hi
    have e : (x / 4294967296 / 65536).toNat = x.toNat / 2 ^ 48 := by rw [show (2 : Nat) ^ 48 = 281474976710656 from by decide]; omega
    generalize Lib.len8tab[(x / 4294967296 / 65536).toNat].toNat = t at h ⊢
    rw [e] at h
    obtain ⟨h2, h3⟩ := tab_up2 (by rw [← e]; omega) h (by omega)
    exact ⟨48 + t, congrArg Ending.returned (congrArg (Value.int .i64) (w64_len2 48 t (by omega) (by omega) h.2)), h2, h3, rfl⟩
  · have hi : (x / 4294967296 / 256).toNat < Lib.len8tab.size := by rw [hs]; omega
    have h := tab_len hi
    have e : (x / 4294967296 / 256).toNat = x.toNat / 2 ^ 40 := by rw [show (2 : Nat) ^ 40 = 1099511627776 from by decide]; omega
    generalize Lib.len8tab[(x / 4294967296 / 256).toNat].toNat = t at h ⊢
    rw [e] at h
    obtain ⟨h2, h3⟩ := tab_up2 (by rw [← e]; omega) h (by omega)
    exact ⟨40 + t, congrArg Ending.returned (congrArg (Value.int .i64) (w64_len2 40 t (by omega) (by omega) h.2)), h2, h3, rfl⟩
  · have hi : (x / 4294967296).toNat < Lib.len8tab.size := by rw [hs]; omega
    have h := tab_len hi
    have e : (x / 4294967296).toNat = x.toNat / 2 ^ 32 := by rw [show (2 : Nat) ^ 32 = 4294967296 from by decide]; omega
    generalize Lib.len8tab[(x / 4294967296).toNat].toNat = t at h ⊢
    rw [e] at h
    obtain ⟨h2, h3⟩ := tab_up2 (by rw [← e]; omega) h (by omega)
    exact ⟨32 + t, congrArg Ending.returned (congrArg (Value.int .i64) (w64_len2 32 t (by omega) (by omega) h.2)), h2, h3, rfl⟩
  · have hi : (x / 65536 / 256).toNat < Lib.len8tab.size := by rw [hs]; omega
    have h := tab_len hi
    have e : (x / 65536 / 256).toNat = x.toNat / 2 ^ 24 := by rw [show (2 : Nat) ^ 24 = 16777216 from by decide]; omega
    generalize Lib.len8tab[(x / 65536 / 256).toNat].toNat = t at h ⊢
    rw [e] at h
    obtain ⟨h2, h3⟩ := tab_up2 (by rw [← e]; omega) h (by omega)
    exact ⟨24 + t, congrArg Ending.returned (congrArg (Value.int .i64) (w64_len2 24 t (by omega) (by omega) h.2)), h2, h3, rfl⟩
  · have hi : (x / 65536).toNat < Lib.len8tab.size := by rw [hs]; omega
    have h := tab_len hi
    have e : (x / 65536).toNat = x.toNat / 2 ^ 16 := by rw [show (2 : Nat) ^ 16 = 65536 from by decide]; omega
    generalize Lib.len8tab[(x / 65536).toNat].toNat = t at h ⊢
    rw [e] at h
    obtain ⟨h2, h3⟩ := tab_up2 (by rw [← e]; omega) h (by omega)
    exact ⟨16 + t, congrArg Ending.returned (congrArg (Value.int .i64) (w64_len2 16 t (by omega) (by omega) h.2)), h2, h3, rfl⟩
  · have hi : (x / 256).toNat < Lib.len8tab.size := by rw [hs]; omega
    have h := tab_len hi
    have e : (x / 256).toNat = x.toNat / 2 ^ 8 := by rw [show (2 : Nat) ^ 8 = 256 from by decide]; omega
    generalize Lib.len8tab[(x / 256).toNat].toNat = t at h ⊢
    rw [e] at h
    obtain ⟨h2, h3⟩ := tab_up2 (by rw [← e]; omega) h (by omega)
    exact ⟨8 + t, congrArg Ending.returned (congrArg (Value.int .i64) (w64_len2 8 t (by omega) (by omega) h.2)), h2, h3, rfl⟩
  · have hi : x.toNat < Lib.len8tab.size := by rw [hs]; omega
    have h := tab_len hi
    generalize Lib.len8tab[x.toNat].toNat = t at h ⊢
    refine ⟨t, congrArg Ending.returned (congrArg (Value.int .i64) ?_), h.1, by omega, rfl⟩
    have := w64_len2 0 t (by omega) (by omega) h.2
    simpa using this

set_option maxRecDepth 100000 in
set_option maxHeartbeats 400000 in
theorem len_any (x : Int) (w : World) (h0 : 0 ≤ x) (h1 : x ≤ 18446744073709551615) :
    Calls Try.prog 77 #[.int .u64 x] w fun e w' => ∃ L : Nat, e = .returned (.int .i64 (L : Nat)) ∧ IsLen x.toNat L ∧ L ≤ 64 ∧ w' = w := by
  go_enter Try.func77, Try.ntmps77
  go_wp2_with fail
  refine (len64_any x _ h0 h1).mono ?_
  rintro e w1 ⟨L, rfl, hL, hb, rfl⟩
  go_wp2
  go_ret
  exact ⟨L, rfl, hL, hb, rfl⟩

theorem top_div {L : List Nat} {n : Nat} (ho : Ok L) (h : L.length = n + 1) : val L / 2 ^ (32 * n) = lm L n := by
  have e : val L = val (L.take n) + BB ^ n * lm L n := by rw [← take_succ_any, List.take_of_length_le (by omega)]
  have hl := val_lt (ho.take n)
  rw [List.length_take, Nat.min_eq_left (by omega)] at hl
  have hB : BB ^ n = 2 ^ (32 * n) := by rw [Nat.pow_mul]; rfl
  rw [hB] at e hl
  rw [e, Nat.add_mul_div_left _ _ (Nat.two_pow_pos _), Nat.div_eq_of_lt hl, Nat.zero_add]
theorem lim_last0 {n : Nat} (h : 0 < n) : lm (lim n) ((lim n).length - 1) ≠ 0 := by
  revert h
  refine lim_ind (p := fun n => 0 < n → lm (lim n) ((lim n).length - 1) ≠ 0) (fun h => absurd h (by decide)) (fun n hn ih _ => ?_) n
  rw [lim_pos hn]
  by_cases h0 : n / BB = 0
  · rw [h0, lim_zero]
    have : n % BB = n := Nat.mod_eq_of_lt ((Nat.div_eq_zero_iff_lt BB_pos).1 h0)
    simp [lm, this]; omega
  · have := ih (Nat.pos_of_ne_zero h0)
    obtain ⟨m, hm⟩ : ∃ m, (lim (n / BB)).length = m + 1 := ⟨(lim (n / BB)).length - 1, by rw [lim_pos (Nat.pos_of_ne_zero h0)]; simp⟩
    rw [List.length_cons, hm]
    rw [hm] at this
    simpa [lm] using this

set_option maxRecDepth 100000 in
set_option maxHeartbeats 1000000 in
theorem lbits_any (v : Value) (m : Nat) (w : World) (h : Nums w v (lim m)) (hlen : (lim m).length ≤ 100000000) :
    Calls Try.prog 120 #[v] w fun e w' => ∃ L : Nat, e = .returned (.int .i64 (L : Nat)) ∧ IsLen m L ∧ L ≤ 32 * (lim m).length ∧ Below w.heap.size w w' := by
  have HN := hide h
  clear h
  go_enter Try.func120, Try.ntmps120
  go_wp2_with fail
  refine (trim_any _ _ _ HN.out).mono ?_
  rintro e w2 ⟨v3, rfl, rfl, hN3, hcut⟩
  rw [val_lim] at hN3
  obtain ⟨_, a, cap, rfl, hl1, hm1, hc1⟩ := hN3
  unfold maxLen at hm1
  have HC := hide hc1
  clear hc1 hcut
  by_cases hz : m = 0
  · subst hz
    rw [lim_zero]
    go_wp2
    go_ret
    exact ⟨0, rfl, ⟨by decide, fun h => absurd h (by decide)⟩, Nat.zero_le _, Below.refl _ _⟩
  · have hp : 0 < (lim m).length := by rw [lim_pos (Nat.pos_of_ne_zero hz)]; simp
    have hlz : ((((lim m).length : Nat) : Int) == 0) = false := by rw [beq_eq_false_iff_ne]; omega
    have HT := hide (top_div (L := lim m) (n := (lim m).length - 1) (ok_lim m) (by omega))
    rw [val_lim] at HT
    have HTOP := hide (lim_last0 (Nat.pos_of_ne_zero hz))
    have HOK := hide (ok_lim m)
    clear hz
    generalize hLm : lim m = L at *
    have HLM := hide hLm
    clear hLm
    obtain ⟨b, off, rfl, hx⟩ := HC.out (ne_nil (k := L.length - 1) (by omega))
    have hxt := hx (L.length - 1) (by omega)
    have htb := HOK.out.at (L.length - 1)
    unfold BB at htb
    clear hx HC
    go_wp2_with fail
    refine (len32_any _ _ (by omega) (by omega)).mono ?_
    rintro e w3 ⟨N, rfl, hN, hNb, rfl⟩
    have HNN := hide hN
    clear hN
    go_wp2
    go_ret
    refine ⟨32 * (L.length - 1) + N, congrArg Ending.returned (congrArg (Value.int .i64) (by omega)), ?_, by first | omega | (rw [HLM.out]; omega), Below.refl _ _⟩
    have hL := HNN.out
    rw [show ((lm L (L.length - 1) : Nat) : Int).toNat = lm L (L.length - 1) from Int.toNat_natCast _, ← HT.out] at hL
    exact hL.shift (by rw [HT.out]; exact Nat.pos_of_ne_zero HTOP.out)

set_option maxRecDepth 100000 in
set_option maxHeartbeats 1000000 in
theorem ibits_any (v : Value) (z : Int) (w : World) (h : IntAt w v z) (hlen : (lim z.natAbs).length ≤ 100000000) :
    Calls Try.prog 76 #[v] w fun e w' => ∃ L : Nat, e = .returned (.int .i64 (L : Nat)) ∧ IsLen z.natAbs L ∧ L ≤ 32 * (lim z.natAbs).length ∧ Below w.heap.size w w' := by
  obtain ⟨b, n, a, c, rfl, hn, rfl, h0⟩ := h
  rw [sg_abs] at hlen ⊢
  have P0 := hide (Box.new w (.bool b) (.slice a (lim n).length c))
  have HB := hide (below_alloc w (.cells #[.bool b, .slice a (lim n).length c] 31))
  have HN := hide (hn.below HB.out)
  clear hn h0
  have p1 := P0.out.cell1
  go_enter Try.func76, Try.ntmps76
  go_wp2_with fail
  refine (lbits_any _ n _ HN.out hlen).mono ?_
  rintro e w1 ⟨L, rfl, hL, hLb, hb⟩
  have HL := hide (And.intro hL hLb)
  replace HB := hide (HB.out.trans (hb.mono HB.out.size))
  clear hL hLb hb p1
  go_wp2
  go_ret
  exact ⟨L, rfl, HL.out.1, HL.out.2, HB.out⟩

theorem IsLen.only {x L M : Nat} (h : IsLen x L) (k : IsLen x M) (hx : 0 < x) : L = M := by
  obtain ⟨h1, h2⟩ := h
  obtain ⟨k1, k2⟩ := k
  have h3 := (h2 hx)
  have k3 := (k2 hx)
  have a := (Nat.pow_lt_pow_iff_right (a := 2) (by decide)).1 (Nat.lt_of_le_of_lt h3.2 k1)
  have b := (Nat.pow_lt_pow_iff_right (a := 2) (by decide)).1 (Nat.lt_of_le_of_lt k3.2 h1)
  omega
end Go.Proofs.Ytapodkjmhenceaa

namespace Go.Proofs.Ytapodkjmhenceaa
end Go.Proofs.Ytapodkjmhenceaa

namespace Go.Proofs.Ytapodkjmhenceaa
open Go.RowKit

/-- a slice of integers that came in -/
def IsRow (k : IntKind) (w : World) (a : Option Addr) (len cap : Nat) (zs : List Int) : Prop :=
  (a = none ∧ len = 0 ∧ cap = 0 ∧ zs = []) ∨
  ∃ x, a = some x ∧ len ≤ cap ∧ cap ≤ maxLen ∧ zs.length = cap ∧ (∀ i, i < zs.length → w.cell? (x.add i) = some (.int k (zs.getD i 0))) ∧ ∀ n ∈ zs, (Lit.int k n).wf = true

end Go.Proofs.Ytapodkjmhenceaa

namespace Go.Proofs.Ytapodkjmhenceaa
open Go.RowKit

/-- since w0 nothing that was there has turned, and these values read as these limbs -/
structure St (w0 w : World) (l : List (Value × List Nat)) : Prop where
  below : Below w0.heap.size w0 w
  live : ∀ p ∈ l, Nums w p.1 p.2

theorem St.start {w : World} : St w w [] := ⟨Below.refl _ _, fun _ h => by cases h⟩
theorem St.step {w0 w w' : World} {l : List (Value × List Nat)} (h : St w0 w l) (hb : Below w.heap.size w w') : St w0 w' l :=
  ⟨h.below.trans (hb.mono h.below.size), fun p hp => (h.live p hp).below hb⟩
theorem St.alloc {w0 w : World} {l : List (Value × List Nat)} (h : St w0 w l) (o : Obj) : St w0 (w.alloc o) l := h.step (below_alloc w o)
theorem St.drew {w0 w : World} {l : List (Value × List Nat)} (h : St w0 w l) : St w0 w.drew l := h.step (Below.refl _ w).drew
theorem St.drewN {w0 w : World} {l : List (Value × List Nat)} (h : St w0 w l) (n : Nat) : St w0 (w.drewN n) l := h.step (below_drewN (Below.refl _ w) n)
theorem St.get {w0 w : World} {l : List (Value × List Nat)} (h : St w0 w l) {v : Value} {xs : List Nat} (hm : (v, xs) ∈ l) : Nums w v xs := h.live _ hm

/-- of so many limbs at most -/
def Sz (k n : Nat) : Prop := n < BB ^ k
theorem Sz.of {xs : List Nat} {k : Nat} (h : Ok xs) (hl : xs.length ≤ k) : Sz k (val xs) :=
  Nat.lt_of_lt_of_le (val_lt h) (Nat.pow_le_pow_right (by decide) hl)
theorem Sz.mono {j k n : Nat} (h : Sz j n) (hl : j ≤ k) : Sz k n := Nat.lt_of_lt_of_le h (Nat.pow_le_pow_right (by decide) hl)
theorem Sz.le {k m n : Nat} (h : Sz k n) (hl : m ≤ n) : Sz k m := Nat.lt_of_le_of_lt hl h
theorem Sz.add {k m n : Nat} (h : Sz k m) (h' : Sz k n) : Sz (k + 1) (m + n) := by
  unfold Sz at *; rw [Nat.pow_succ]; have : BB ^ k * 2 ≤ BB ^ k * BB := Nat.mul_le_mul_left _ (by decide); omega
theorem Sz.mul {j k m n : Nat} (h : Sz j m) (h' : Sz k n) : Sz (j + k) (m * n) := by
  unfold Sz at *; rw [Nat.pow_add]
  exact Nat.mul_lt_mul_of_lt_of_le h (Nat.le_of_lt h') (Nat.pow_pos (by decide))
theorem Sz.len {k n : Nat} (h : Sz k n) : (lim n).length ≤ k := lim_length_le h

end Go.Proofs.Ytapodkjmhenceaa

namespace Go.Proofs.Ytapodkjmhenceaa
open Go.RowKit

/-- a text's byte -/
def bt (s : ByteArray) (i : Nat) : Nat := if h : i < s.size then s[i].toNat else 0
/-- nothing wrong at this place -/
structure Fine (s : ByteArray) (i : Nat) : Prop where
  lo : 48 ≤ bt s i
  hi : bt s i ≤ 57
  lead : 1 ≤ i → bt s 0 ≠ 48
/-- nothing wrong up to this place -/
def Good (s : ByteArray) (i : Nat) : Prop := ∀ j, j < i → Fine s j
theorem Good.zero (s : ByteArray) : Good s 0 := fun j h => absurd h (by omega)
theorem Good.succ {s : ByteArray} {i : Nat} (h : Good s i) (f : Fine s i) : Good s (i + 1) := by
  intro j hj
  rcases Nat.lt_succ_iff_lt_or_eq.1 hj with h1 | rfl
  · exact h j h1
  · exact f
theorem Good.only {s : ByteArray} {i j : Nat} (h : Good s i) (b : ¬ Fine s i) (h' : Good s j) (b' : ¬ Fine s j) : i = j := by
  rcases Nat.lt_trichotomy i j with l | e | l
  · exact absurd (h' i l) b
  · exact e
  · exact absurd (h j l) b'

end Go.Proofs.Ytapodkjmhenceaa

namespace Go.Proofs.Ytapodkjmhenceaa

def UU : Nat := 1000000000

/-- the k + 1 low digits, the high one first -/
def digs : Nat → Nat → List Nat
  | 0, g => [g % 10]
  | k + 1, g => (g / 10 ^ (k + 1) % 10) :: digs k g

def ndF : Nat → Nat → Nat
  | 0, _ => 0
  | f + 1, n => if n < 10 then 0 else ndF f (n / 10) + 1

/-- how many digits stand behind the first one -/
def nd (n : Nat) : Nat := ndF n n

/-- a number's digits -/
def dec (n : Nat) : List Nat := digs (nd n) n

theorem pow_succ10 (k : Nat) : 10 ^ (k + 1) = 10 * 10 ^ k := by rw [Nat.pow_succ, Nat.mul_comm]
def grpF : Nat → Nat → List Nat
  | 0, n => [n]
  | f + 1, n => if n < UU then [n] else (n % UU) :: grpF f (n / UU)

/-- a number's groups, the low one first -/
def grp (n : Nat) : List Nat := grpF n n

/-- the groups behind the first one, of what is left -/
def grpR (n : Nat) : List Nat := if n = 0 then [] else grp n
/-- what is told of groups: the last one without noughts ahead, the others nine digits each -/
def told : List Nat → List Nat
  | [] => []
  | [t] => digs (nd t) t
  | g :: h :: gs => told (h :: gs) ++ digs 8 g

end Go.Proofs.Ytapodkjmhenceaa

namespace Go.Proofs.Ytapodkjmhenceaa
open Go.RowKit

/-- the number that the first k bytes say -/
def nv (s : ByteArray) : Nat → Nat
  | 0 => 0
  | k + 1 => nv s k * 10 + (bt s k - 48)

/-- what a text reads as -/
def Rd (s : ByteArray) (xs : List Nat) (a b : Nat) : Prop :=
  (65536 < s.size ∧ xs = [] ∧ a = 3 ∧ b = 65536) ∨ (s.size = 0 ∧ xs = [] ∧ a = 6 ∧ b = 0) ∨
  (s.size ≤ 65536 ∧ ∃ i, i < s.size ∧ Good s i ∧ ¬ Fine s i ∧ xs = [] ∧ a = 6 ∧ b = i) ∨
  (s.size ≤ 65536 ∧ 0 < s.size ∧ Good s s.size ∧ xs = lim (nv s s.size) ∧ a = 0 ∧ b = 0)
theorem Rd.same {s : ByteArray} {xs ys : List Nat} {a b c d : Nat} (h : Rd s xs a b) (k : Rd s ys c d) : xs = ys ∧ a = c ∧ b = d := by
  rcases h with ⟨h1, rfl, rfl, rfl⟩ | ⟨h1, rfl, rfl, rfl⟩ | ⟨h1, i, hi, hg, hb, rfl, rfl, rfl⟩ | ⟨h1, h2, hg, rfl, rfl, rfl⟩ <;>
  rcases k with ⟨k1, rfl, rfl, rfl⟩ | ⟨k1, rfl, rfl, rfl⟩ | ⟨k1, j, kj, kg, kb, rfl, rfl, rfl⟩ | ⟨k1, k2, kg, rfl, rfl, rfl⟩ <;>
  first | omega | exact ⟨rfl, rfl, rfl⟩ | exact ⟨rfl, rfl, hg.only hb kg kb⟩ | exact absurd (hg _ kj) kb | exact absurd (kg _ hi) hb

/-- how many digits of a group have come, with r to go in all -/
def ge (r : Nat) : Nat := (9 - r % 9) % 9
/-- a text's state at the place k: so far N groups, and g -/
structure ReadAt (s : ByteArray) (k N g : Nat) : Prop where
  sum : nv s k = N * 10 ^ ge (s.size - k) + g
  lt : g < 10 ^ ge (s.size - k)
theorem ReadAt.start (s : ByteArray) : ReadAt s 0 0 0 := ⟨by simp [nv], Nat.pow_pos (by decide)⟩
theorem ReadAt.go {s : ByteArray} {k N g d : Nat} (h : ReadAt s k N g) (hk : k < s.size) (hd : bt s k = 48 + d) (h9 : d ≤ 9) (hm : (s.size - 1 - k) % 9 ≠ 0) : ReadAt s (k + 1) N (g * 10 + d) := by
  have e : ge (s.size - (k + 1)) = ge (s.size - k) + 1 := by unfold ge; omega
  have h1 := h.sum
  have h2 := h.lt
  refine ⟨?_, ?_⟩
  · rw [e, pow_succ10]; simp only [nv]; rw [h1, hd]
    generalize 10 ^ ge (s.size - k) = p
    rw [Nat.add_mul, Nat.mul_assoc, Nat.mul_comm p 10]; omega
  · rw [e, pow_succ10]; omega
theorem ReadAt.take {s : ByteArray} {k N g d : Nat} (h : ReadAt s k N g) (hk : k < s.size) (hd : bt s k = 48 + d) (h9 : d ≤ 9) (hm : (s.size - 1 - k) % 9 = 0) : ReadAt s (k + 1) (1000000000 * N + (g * 10 + d)) 0 := by
  have e : ge (s.size - k) = 8 := by unfold ge; omega
  have e' : ge (s.size - (k + 1)) = 0 := by unfold ge; omega
  have h1 := h.sum
  refine ⟨?_, by rw [e']; decide⟩
  rw [e'] ; simp only [nv]; rw [h1, hd, e]
  omega
theorem ReadAt.end {s : ByteArray} {N g : Nat} (h : ReadAt s s.size N g) : N = nv s s.size := by
  have h1 := h.sum
  have h2 := h.lt
  have e : ge (s.size - s.size) = 0 := by unfold ge; omega
  rw [e] at h1 h2
  omega
theorem ReadAt.le {s : ByteArray} {k N g : Nat} (h : ReadAt s k N g) : N ≤ nv s k := by
  rw [h.sum]
  exact Nat.le_trans (Nat.le_mul_of_pos_right N (Nat.pow_pos (by decide))) (Nat.le_add_right _ _)

end Go.Proofs.Ytapodkjmhenceaa

namespace Go.Proofs.Ytapodkjmhenceaa
open Go.RowKit

/-- the text begins with this byte -/
def hp (s : ByteArray) (c : UInt8) : Bool := decide (0 < s.size ∧ bt s 0 = c.toNat)
/-- the text behind its first byte -/
def rest1 (s : ByteArray) : ByteArray := s.extract 1 s.size

/-- what CutPrefix answers: the text behind the prefix -/
def cutP (s : ByteArray) (c : UInt8) : ByteArray := if hp s c then rest1 s else s

end Go.Proofs.Ytapodkjmhenceaa

namespace Go.Proofs.Ytapodkjmhenceaa
open Go.RowKit

/-- what a text reads as: a number with a sign -/
def IRd (s : ByteArray) (z : Int) (a b : Nat) : Prop :=
  (65536 < s.size ∧ z = 0 ∧ a = 3 ∧ b = 65536) ∨
  (s.size ≤ 65536 ∧ hp s 45 = true ∧ hp (rest1 s) 48 = true ∧ z = 0 ∧ a = 6 ∧ b = 1) ∨
  (s.size ≤ 65536 ∧ ¬ (hp s 45 = true ∧ hp (rest1 s) 48 = true) ∧ ∃ xs a' b', Rd (cutP s 45) xs a' b' ∧
    ((a' ≠ 0 ∧ z = 0 ∧ a = a' ∧ b = b' + (s.size - (cutP s 45).size)) ∨ (a' = 0 ∧ z = sg (hp s 45) (val xs) ∧ a = 0 ∧ b = 0)))

theorem Rd.none {s : ByteArray} {xs : List Nat} {b : Nat} (h : Rd s xs 0 b) : b = 0 := by
  rcases h with ⟨_, _, h, _⟩ | ⟨_, _, h, _⟩ | ⟨_, i, _, _, _, _, h, _⟩ | ⟨_, _, _, _, _, h⟩ <;> omega
theorem Box2.put {W : World} {B : Nat} {t : TypeId} {x y : Value} (h : Box2 W B t x y) (x' y' : Value) : Box2 ((W.setCell ⟨B, 0, none⟩ x').setCell ⟨B, 1, none⟩ y') B t x' y' := (h.set0 _).set1 _
theorem Box2.other {W : World} {B C : Nat} {t : TypeId} {x y : Value} (h : Box2 W B t x y) (hne : C ≠ B) (x' y' : Value) : Box2 ((W.setCell ⟨C, 0, none⟩ x').setCell ⟨C, 1, none⟩ y') B t x y := (h.set_ne hne _).set_ne hne _
theorem Box2.keeps {W : World} {B : Nat} {t : TypeId} {x y : Value} (h : Box2 W B t x y) (hx : ∀ z, x ≠ .int .u32 z) (hy : ∀ z, y ≠ .int .u32 z) (x' y' : Value) : Spares W ((W.setCell ⟨B, 0, none⟩ x').setCell ⟨B, 1, none⟩ y') :=
  (Spares.set h.cell0 hx x').trans (Spares.set (h.set0 x').cell1 hy y')

theorem int_zero (w : World) : IntAt w (.agg #[.bool false, .slice none 0 0]) 0 := ⟨false, 0, none, 0, by rw [lim_zero]; rfl, by rw [lim_zero]; exact Nums.nil_mk _ _ _ (Nat.zero_le _), rfl, fun _ => rfl⟩

end Go.Proofs.Ytapodkjmhenceaa

namespace Go.Proofs.Ytapodkjmhenceaa
open Go.RowKit

theorem ipow_add (x : Int) (a b : Nat) : x ^ (a + b) = x ^ a * x ^ b := by
  induction b with
  | zero => simp
  | succ b ih => rw [← Nat.add_assoc, Int.pow_succ, ih, Int.pow_succ, Int.mul_assoc]
theorem pow_len {n L E f K : Nat} (h : IsLen n L) (hE : L = 0 ∨ E ≤ 65536 / L) (hf : f ≤ E) (hK : 65536 < 32 * K) : (lim (n ^ f)).length ≤ K := by
  refine lim_length_le ?_
  have hB : BB ^ K = 2 ^ (32 * K) := by rw [show BB = 2 ^ 32 from rfl, ← Nat.pow_mul]
  rw [hB]
  have h1 : n ^ f ≤ 2 ^ (L * f) := by rw [Nat.pow_mul]; exact Nat.pow_le_pow_left (Nat.le_of_lt h.1) f
  have h2 : L * f ≤ 65536 := by
    rcases hE with e | e
    · rw [e]; omega
    · exact Nat.le_trans (Nat.mul_le_mul_left L (Nat.le_trans hf e)) (Nat.mul_div_le 65536 L)
  exact Nat.lt_of_le_of_lt h1 (Nat.pow_lt_pow_right (by decide) (by omega))
theorem ipow_len {x : Int} {L E f : Nat} (h : IsLen x.natAbs L) (hE : L = 0 ∨ E ≤ 65536 / L) (hf : f ≤ E) : (lim (x ^ f).natAbs).length ≤ 1000000000 := by
  rw [Int.natAbs_pow]
  exact Nat.le_trans (pow_len (K := 2050) h hE hf (by decide)) (by decide)
theorem half_step (E k : Nat) : E / 2 ^ k = E / 2 ^ (k + 1) + E / 2 ^ (k + 1) + E / 2 ^ k % 2 := by
  rw [Nat.pow_succ, ← Nat.div_div_eq_div_mul]; omega
theorem half_le (E k : Nat) : E / 2 ^ (k + 1) + E / 2 ^ (k + 1) ≤ E := by
  have := half_step E k
  have h2 := Nat.div_le_self E (2 ^ k)
  omega
theorem and_one64 (n : Int) : bits .and .i64 n 1 = n % 2 := by
  have h1 : (BitVec.ofInt 64 1).toNat = 2 ^ 1 - 1 := by decide
  have key : (BitVec.ofInt 64 n &&& BitVec.ofInt 64 1).toNat = (n % ((2 ^ 64 : Nat) : Int)).toNat % 2 ^ 1 := by
    rw [BitVec.toNat_and, BitVec.toNat_ofInt, h1, Nat.and_two_pow_sub_one_eq_mod]
  show IntKind.i64.wrap ((BitVec.ofInt 64 n &&& BitVec.ofInt 64 1).toNat : Nat) = n % 2
  rw [key, IntKind.wrap_i64]
  omega
theorem shr_bit (E k : Nat) : bits .and .i64 ((E : Int) / 2 ^ k) 1 = ((E / 2 ^ k % 2 : Nat) : Int) := by
  have e : ((E : Int) / 2 ^ k) = ((E / 2 ^ k : Nat) : Int) := by rw [Int.natCast_ediv, Int.natCast_pow]; rfl
  rw [and_one64, e]
  omega
theorem quo_cast (L : Nat) : ((65536 / L : Nat) : Int) = 65536 / (L : Int) := by rw [Int.natCast_ediv]; rfl
/-- what Pow answers -/
def IPw (x e z a : Int) (L : Nat) : Prop := (e < 0 ∧ z = 0 ∧ a = 2) ∨ (0 ≤ e ∧ 0 < L ∧ ((65536 / L : Nat) : Int) < e ∧ z = 0 ∧ a = 3) ∨ (0 ≤ e ∧ (L = 0 ∨ e ≤ ((65536 / L : Nat) : Int)) ∧ z = x ^ e.toNat ∧ a = 0)
def IPwP (x e : Int) (w : World) (r : Ending) (w' : World) : Prop := ∃ (v : Value) (z a : Int) (L : Nat), r = .returned (.tuple #[v, .int .i64 a]) ∧ IntAt w' v z ∧ IsLen x.natAbs L ∧ L ≤ 32 * (lim x.natAbs).length ∧ IPw x e z a L ∧ Below w.heap.size w w'

set_option maxRecDepth 100000 in
set_option maxHeartbeats 8000000 in
theorem ipow_any (v : Value) (x e : Int) (w : World) (h : IntAt w v x) (l1 : (lim x.natAbs).length ≤ 1000000) (hlo : -9223372036854775808 ≤ e) (hhi : e ≤ 9223372036854775807) :
    Calls Try.prog 25 #[v, .int .i64 e] w fun r w' => IPwP x e w r w' := by
  obtain ⟨b1, a1, L1, c1, rfl, i1⟩ := h.cells
  have HE := hide (boxes2 w (.bool b1) (.slice a1 L1 c1) (.bool false) (.slice none 0 0))
  have I1 := hide (i1.below HE.out.2.2)
  have P0 := hide HE.out.1
  have P1 := hide HE.out.2.1
  have HB := hide HE.out.2.2
  have LX := hide l1
  clear h i1 HE
  have p0 := P0.out.cell0
  have p1 := P0.out.cell1
  go_enter Try.func25, Try.ntmps25
  go_wp2_with fail
  refine (ibits_any _ x _ I1.out (by omega)).mono ?_
  rintro r w1 ⟨L, rfl, hL, hLb, hb⟩
  replace HB := hide (HB.out.trans (hb.mono HB.out.size))
  replace P0 := hide (P0.out.step hb)
  replace P1 := hide (P1.out.step hb)
  replace I1 := hide (I1.out.below hb)
  have HL := hide hL
  have HLB := hide hLb
  have hLs : L ≤ 32000000 := by omega
  clear hb hL hLb p0 p1 l1
  have hc0 := P1.out.cell0
  have hc1 := P1.out.cell1
  have hf0 := P1.out.free 0
  have hf1 := P1.out.free 1
  by_cases he : e < 0
  · go_wp2
    refine ret_one rfl (w.heap.size + 1) _ _ rfl (P1.out.put _ _) rfl ?_
    unfold IPwP
    exact ⟨_, 0, 2, L, rfl, int_zero _, HL.out, HLB.out, Or.inl ⟨he, rfl, rfl⟩, below_put HB.out (Nat.le_succ _) _ _⟩
  obtain ⟨E, hE⟩ : ∃ E : Nat, e = (E : Int) := ⟨e.toNat, by omega⟩
  subst hE
  have hEb : E ≤ 9223372036854775807 := by omega
  clear he hlo hhi
  by_cases hlong : 0 < L ∧ 65536 / L < E
  · obtain ⟨hl1, hl2⟩ := hlong
    have hl3 : (65536 : Int) / (L : Int) < (E : Int) := by have := quo_cast L; omega
    go_wp2
    refine ret_one rfl (w.heap.size + 1) _ _ rfl (P1.out.put _ _) rfl ?_
    unfold IPwP
    exact ⟨_, 0, 3, L, rfl, int_zero _, HL.out, HLB.out, Or.inr (.inl ⟨by omega, hl1, by have := quo_cast L; omega, rfl, rfl⟩), below_put HB.out (Nat.le_succ _) _ _⟩
  have HFIT : Hid (L = 0 ∨ E ≤ 65536 / L) := hide (by omega)
  clear hc0 hc1 hf0 hf1
  by_cases hL0 : L = 0
  · subst hL0
    clear hlong
    go_wp2_with fail
    refine (iof_any 1 _ (by decide) (by decide)).mono ?_
    rintro r w2 ⟨v2, rfl, n2, hb⟩
    obtain ⟨s2, m2, k2, d2, rfl, n2⟩ := n2.cells
    replace HB := hide (HB.out.trans (hb.mono HB.out.size))
    replace P0 := hide (P0.out.step hb)
    replace P1 := hide (P1.out.step hb)
    replace I1 := hide (I1.out.below hb)
    clear hb
    go_upto_region 7 with fail
    have al := below_alloc w2 (.cells #[.bool s2, .slice m2 k2 d2] 31)
    have PP := hide (Box.new w2 (.bool s2) (.slice m2 k2 d2))
    have LTP : Hid (w.heap.size + 1 < w2.heap.size) := hide P1.out.lt
    replace HB := hide (HB.out.trans (al.mono HB.out.size))
    replace P0 := hide (P0.out.step al)
    replace P1 := hide (P1.out.step al)
    replace I1 := hide (I1.out.below al)
    have IP := hide (n2.below al)
    clear al n2
    generalize w2.alloc (.cells #[.bool s2, .slice m2 k2 d2] 31) = w3 at *
    generalize w2.heap.size = gp at *
    have hw : IntKind.u64.wrap (E : Int) = (E : Int) := by rw [IntKind.wrap_u64]; omega
    go_wp2_with fail
    refine (len_any (E : Int) _ (by omega) (by omega)).mono ?_
    rintro r w4 ⟨N, rfl, hN, hNb, rfl⟩
    have HN := hide hN
    clear hN hw
    rw [Int.toNat_natCast] at HN
    go_wp2
    go_loopw [8] (fun kv wr => ∃ (k : Nat) (s : Bool) (m : Option Addr) (n c : Nat), k ≤ 64 ∧ kv = .int .i64 ((k : Int) - 1) ∧ Below w.heap.size w wr ∧ Box wr w.heap.size (.bool b1) (.slice a1 L1 c1) ∧ Box wr (w.heap.size + 1) (.bool false) (.slice none 0 0) ∧ Box wr gp (.bool s) (.slice m n c) ∧ IntAt wr (.agg #[.bool s, .slice m n c]) (x ^ (E / 2 ^ k)) ∧ IntAt wr (.agg #[.bool b1, .slice a1 L1 c1]) x) (fun kv _ => (intOf kv + 1).toNat)
    case atStart => exact ⟨N, s2, m2, k2, d2, hNb, by go_num, HB.out, P0.out, P1.out, PP.out, by rw [Nat.div_eq_of_lt HN.out.1, Int.pow_zero]; exact IP.out, I1.out⟩
    case round =>
      clear HB P0 P1 PP IP I1
      obtain ⟨k, s, m, n, c, hk, rfl, hB, h0, h1, hp, hip, hix⟩ := hrel
      have HB := hide hB
      have P0 := hide h0
      have P1 := hide h1
      have PP := hide hp
      have IP := hide hip
      have I1 := hide hix
      clear hB h0 h1 hp hip hix
      cases k with
      | zero =>
        have p0 := PP.out.cell0
        have p1 := PP.out.cell1
        have hc0 := P1.out.cell0
        have hc1 := P1.out.cell1
        have hf0 := P1.out.free 0
        have hf1 := P1.out.free 1
        go_wp2
        refine ret_one rfl (w.heap.size + 1) _ _ rfl (P1.out.put _ _) rfl ?_
        unfold IPwP
        exact ⟨_, x ^ E, 0, _, rfl, by have := IP.out.keep (P1.out.keeps (by simp) (by simp) (.bool s) (.slice m n c)); simpa using this, HL.out, HLB.out, Or.inr (.inr ⟨by omega, .inl rfl, by rw [Int.toNat_natCast], rfl⟩), below_put HB.out (Nat.le_succ _) _ _⟩
      | succ k =>
        rw [show (((k + 1 : Nat) : Int) - 1) = (k : Int) from by omega]
        have p0 := PP.out.cell0
        have p1 := PP.out.cell1
        go_wp2_with fail
        refine (imul_any _ _ (x ^ (E / 2 ^ (k + 1))) (x ^ (E / 2 ^ (k + 1))) _ IP.out IP.out (ipow_len HL.out (Or.inl rfl) (Nat.div_le_self _ _)) (ipow_len HL.out (Or.inl rfl) (Nat.div_le_self _ _))).mono ?_
        rintro r u1 ⟨v5, rfl, n5, hb⟩
        rw [← ipow_add] at n5
        obtain ⟨s5, m5, k5, d5, rfl, n5⟩ := n5.cells
        replace HB := hide (HB.out.trans (hb.mono HB.out.size))
        replace P0 := hide (P0.out.step hb)
        replace P1 := hide (P1.out.step hb)
        replace PP := hide (PP.out.step hb)
        replace I1 := hide (I1.out.below hb)
        have I5 := hide n5
        clear hb n5 IP p0 p1
        have p0 := PP.out.cell0
        have p1 := PP.out.cell1
        have f0 := PP.out.free 0
        have f1 := PP.out.free 1
        go_upto_region 11 with fail
        clear p0 p1 f0 f1
        replace HB := hide (below_put HB.out (show w.heap.size ≤ gp by have := LTP.out; omega) (.bool s5) (.slice m5 k5 d5))
        replace P0 := hide (P0.out.other (C := gp) (by have := LTP.out; omega) (.bool s5) (.slice m5 k5 d5))
        replace P1 := hide (P1.out.other (C := gp) (by have := LTP.out; omega) (.bool s5) (.slice m5 k5 d5))
        replace I1 := hide (I1.out.keep (PP.out.keeps (by simp) (by simp) (.bool s5) (.slice m5 k5 d5)))
        replace I5 := hide (I5.out.keep (PP.out.keeps (by simp) (by simp) (.bool s5) (.slice m5 k5 d5)))
        replace PP := hide (PP.out.put (.bool s5) (.slice m5 k5 d5))
        generalize (u1.setCell ⟨gp, 0, none⟩ (.bool s5)).setCell ⟨gp, 1, none⟩ (.slice m5 k5 d5) = u2 at *
        have HST := hide (half_step E k)
        have hkI : (k : Int) ≤ 63 := by omega
        have hbit := shr_bit E k
        by_cases hb1 : E / 2 ^ k % 2 = 1
        · rw [hb1] at hbit
          have p0 := PP.out.cell0
          have p1 := PP.out.cell1
          have x0 := P0.out.cell0
          have x1 := P0.out.cell1
          go_wp2_with fail
          refine (imul_any _ _ (x ^ (E / 2 ^ (k + 1) + E / 2 ^ (k + 1))) x _ I5.out I1.out (ipow_len HL.out (Or.inl rfl) (half_le E k)) (by have := LX.out; omega)).mono ?_
          rintro r u3 ⟨v6, rfl, n6, hb⟩
          have e6 : x ^ (E / 2 ^ (k + 1) + E / 2 ^ (k + 1)) * x = x ^ (E / 2 ^ k) := by rw [← Int.pow_succ]; congr 1; have := HST.out; omega
          rw [e6] at n6
          clear e6
          obtain ⟨s6, m6, k6, d6, rfl, n6⟩ := n6.cells
          replace HB := hide (HB.out.trans (hb.mono HB.out.size))
          replace P0 := hide (P0.out.step hb)
          replace P1 := hide (P1.out.step hb)
          replace PP := hide (PP.out.step hb)
          replace I1 := hide (I1.out.below hb)
          have I6 := hide n6
          clear hb n6 I5 p0 p1 x0 x1 hbit
          have p0 := PP.out.cell0
          have p1 := PP.out.cell1
          have f0 := PP.out.free 0
          have f1 := PP.out.free 1
          go_wp2
          go_roundw
          case rel => exact ⟨k, s6, m6, k6, d6, by omega, by go_num, below_put HB.out (show w.heap.size ≤ gp by have := LTP.out; omega) (.bool s6) (.slice m6 k6 d6), P0.out.other (C := gp) (by have := LTP.out; omega) (.bool s6) (.slice m6 k6 d6), P1.out.other (C := gp) (by have := LTP.out; omega) (.bool s6) (.slice m6 k6 d6), PP.out.put (.bool s6) (.slice m6 k6 d6), I6.out.keep (PP.out.keeps (by simp) (by simp) (.bool s6) (.slice m6 k6 d6)), I1.out.keep (PP.out.keeps (by simp) (by simp) (.bool s6) (.slice m6 k6 d6))⟩
          case measure => simp [intOf]
        · have hb0 : E / 2 ^ k % 2 = 0 := by omega
          rw [hb0] at hbit HST
          go_wp2
          go_roundw
          case rel => exact ⟨k, s5, m5, k5, d5, by omega, by go_num, HB.out, P0.out, P1.out, PP.out, by rw [HST.out]; exact I5.out, I1.out⟩
          case measure => simp [intOf]
  · have hl3 : ¬ (65536 : Int) / (L : Int) < (E : Int) := by have h9 := HFIT.out; have h8 := quo_cast L; omega
    have hLp : 0 < L := by omega
    clear hlong hL0
    go_wp2_with fail
    refine (iof_any 1 _ (by decide) (by decide)).mono ?_
    rintro r w2 ⟨v2, rfl, n2, hb⟩
    obtain ⟨s2, m2, k2, d2, rfl, n2⟩ := n2.cells
    replace HB := hide (HB.out.trans (hb.mono HB.out.size))
    replace P0 := hide (P0.out.step hb)
    replace P1 := hide (P1.out.step hb)
    replace I1 := hide (I1.out.below hb)
    clear hb hl3 hLp
    go_upto_region 7 with fail
    have al := below_alloc w2 (.cells #[.bool s2, .slice m2 k2 d2] 31)
    have PP := hide (Box.new w2 (.bool s2) (.slice m2 k2 d2))
    have LTP : Hid (w.heap.size + 1 < w2.heap.size) := hide P1.out.lt
    replace HB := hide (HB.out.trans (al.mono HB.out.size))
    replace P0 := hide (P0.out.step al)
    replace P1 := hide (P1.out.step al)
    replace I1 := hide (I1.out.below al)
    have IP := hide (n2.below al)
    clear al n2
    generalize w2.alloc (.cells #[.bool s2, .slice m2 k2 d2] 31) = w3 at *
    generalize w2.heap.size = gp at *
    have hw : IntKind.u64.wrap (E : Int) = (E : Int) := by rw [IntKind.wrap_u64]; omega
    go_wp2_with fail
    refine (len_any (E : Int) _ (by omega) (by omega)).mono ?_
    rintro r w4 ⟨N, rfl, hN, hNb, rfl⟩
    have HN := hide hN
    clear hN hw
    rw [Int.toNat_natCast] at HN
    go_wp2
    go_loopw [8] (fun kv wr => ∃ (k : Nat) (s : Bool) (m : Option Addr) (n c : Nat), k ≤ 64 ∧ kv = .int .i64 ((k : Int) - 1) ∧ Below w.heap.size w wr ∧ Box wr w.heap.size (.bool b1) (.slice a1 L1 c1) ∧ Box wr (w.heap.size + 1) (.bool false) (.slice none 0 0) ∧ Box wr gp (.bool s) (.slice m n c) ∧ IntAt wr (.agg #[.bool s, .slice m n c]) (x ^ (E / 2 ^ k)) ∧ IntAt wr (.agg #[.bool b1, .slice a1 L1 c1]) x) (fun kv _ => (intOf kv + 1).toNat)
    case atStart => exact ⟨N, s2, m2, k2, d2, hNb, by go_num, HB.out, P0.out, P1.out, PP.out, by rw [Nat.div_eq_of_lt HN.out.1, Int.pow_zero]; exact IP.out, I1.out⟩
    case round =>
      clear HB P0 P1 PP IP I1
      obtain ⟨k, s, m, n, c, hk, rfl, hB, h0, h1, hp, hip, hix⟩ := hrel
      have HB := hide hB
      have P0 := hide h0
      have P1 := hide h1
      have PP := hide hp
      have IP := hide hip
      have I1 := hide hix
      clear hB h0 h1 hp hip hix
      cases k with
      | zero =>
        have p0 := PP.out.cell0
        have p1 := PP.out.cell1
        have hc0 := P1.out.cell0
        have hc1 := P1.out.cell1
        have hf0 := P1.out.free 0
        have hf1 := P1.out.free 1
        go_wp2
        refine ret_one rfl (w.heap.size + 1) _ _ rfl (P1.out.put _ _) rfl ?_
        unfold IPwP
        exact ⟨_, x ^ E, 0, _, rfl, by have := IP.out.keep (P1.out.keeps (by simp) (by simp) (.bool s) (.slice m n c)); simpa using this, HL.out, HLB.out, Or.inr (.inr ⟨by omega, (by have h9 := HFIT.out; have h8 := quo_cast L; omega), by rw [Int.toNat_natCast], rfl⟩), below_put HB.out (Nat.le_succ _) _ _⟩
      | succ k =>
        rw [show (((k + 1 : Nat) : Int) - 1) = (k : Int) from by omega]
        have p0 := PP.out.cell0
        have p1 := PP.out.cell1
        go_wp2_with fail
        refine (imul_any _ _ (x ^ (E / 2 ^ (k + 1))) (x ^ (E / 2 ^ (k + 1))) _ IP.out IP.out (ipow_len HL.out HFIT.out (Nat.div_le_self _ _)) (ipow_len HL.out HFIT.out (Nat.div_le_self _ _))).mono ?_
        rintro r u1 ⟨v5, rfl, n5, hb⟩
        rw [← ipow_add] at n5
        obtain ⟨s5, m5, k5, d5, rfl, n5⟩ := n5.cells
        replace HB := hide (HB.out.trans (hb.mono HB.out.size))
        replace P0 := hide (P0.out.step hb)
        replace P1 := hide (P1.out.step hb)
        replace PP := hide (PP.out.step hb)
        replace I1 := hide (I1.out.below hb)
        have I5 := hide n5
        clear hb n5 IP p0 p1
        have p0 := PP.out.cell0
        have p1 := PP.out.cell1
        have f0 := PP.out.free 0
        have f1 := PP.out.free 1
        go_upto_region 11 with fail
        clear p0 p1 f0 f1
        replace HB := hide (below_put HB.out (show w.heap.size ≤ gp by have := LTP.out; omega) (.bool s5) (.slice m5 k5 d5))
        replace P0 := hide (P0.out.other (C := gp) (by have := LTP.out; omega) (.bool s5) (.slice m5 k5 d5))
        replace P1 := hide (P1.out.other (C := gp) (by have := LTP.out; omega) (.bool s5) (.slice m5 k5 d5))
        replace I1 := hide (I1.out.keep (PP.out.keeps (by simp) (by simp) (.bool s5) (.slice m5 k5 d5)))
        replace I5 := hide (I5.out.keep (PP.out.keeps (by simp) (by simp) (.bool s5) (.slice m5 k5 d5)))
        replace PP := hide (PP.out.put (.bool s5) (.slice m5 k5 d5))
        generalize (u1.setCell ⟨gp, 0, none⟩ (.bool s5)).setCell ⟨gp, 1, none⟩ (.slice m5 k5 d5) = u2 at *
        have HST := hide (half_step E k)
        have hkI : (k : Int) ≤ 63 := by omega
        have hbit := shr_bit E k
        by_cases hb1 : E / 2 ^ k % 2 = 1
        · rw [hb1] at hbit
          have p0 := PP.out.cell0
          have p1 := PP.out.cell1
          have x0 := P0.out.cell0
          have x1 := P0.out.cell1
          go_wp2_with fail
          refine (imul_any _ _ (x ^ (E / 2 ^ (k + 1) + E / 2 ^ (k + 1))) x _ I5.out I1.out (ipow_len HL.out HFIT.out (half_le E k)) (by have := LX.out; omega)).mono ?_
          rintro r u3 ⟨v6, rfl, n6, hb⟩
          have e6 : x ^ (E / 2 ^ (k + 1) + E / 2 ^ (k + 1)) * x = x ^ (E / 2 ^ k) := by rw [← Int.pow_succ]; congr 1; have := HST.out; omega
          rw [e6] at n6
          clear e6
          obtain ⟨s6, m6, k6, d6, rfl, n6⟩ := n6.cells
          replace HB := hide (HB.out.trans (hb.mono HB.out.size))
          replace P0 := hide (P0.out.step hb)
          replace P1 := hide (P1.out.step hb)
          replace PP := hide (PP.out.step hb)
          replace I1 := hide (I1.out.below hb)
          have I6 := hide n6
          clear hb n6 I5 p0 p1 x0 x1 hbit
          have p0 := PP.out.cell0
          have p1 := PP.out.cell1
          have f0 := PP.out.free 0
          have f1 := PP.out.free 1
          go_wp2
          go_roundw
          case rel => exact ⟨k, s6, m6, k6, d6, by omega, by go_num, below_put HB.out (show w.heap.size ≤ gp by have := LTP.out; omega) (.bool s6) (.slice m6 k6 d6), P0.out.other (C := gp) (by have := LTP.out; omega) (.bool s6) (.slice m6 k6 d6), P1.out.other (C := gp) (by have := LTP.out; omega) (.bool s6) (.slice m6 k6 d6), PP.out.put (.bool s6) (.slice m6 k6 d6), I6.out.keep (PP.out.keeps (by simp) (by simp) (.bool s6) (.slice m6 k6 d6)), I1.out.keep (PP.out.keeps (by simp) (by simp) (.bool s6) (.slice m6 k6 d6))⟩
          case measure => simp [intOf]
        · have hb0 : E / 2 ^ k % 2 = 0 := by omega
          rw [hb0] at hbit HST
          go_wp2
          go_roundw
          case rel => exact ⟨k, s5, m5, k5, d5, by omega, by go_num, HB.out, P0.out, P1.out, PP.out, by rw [HST.out]; exact I5.out, I1.out⟩
          case measure => simp [intOf]
end Go.Proofs.Ytapodkjmhenceaa

namespace Go.Proofs.Ytapodkjmhenceaa
open Go.RowKit

/-- a list of one's own of which no cell holds a limb -/
def Own2 (w : World) (base : Nat) (e : TypeId) (v : Value) (n : Nat) (xs : List Value) : Prop :=
  w.ownsRow base e 2 v n xs ∧ ∀ g cur t fr, v.ownBlock = some g → w.heap[g]? = some (.cells cur t fr) → ∀ c ∈ cur.toList, ∀ z, c ≠ .int .u32 z
theorem Own2.nil (w : World) (base : Nat) (e : TypeId) : Own2 w base e (.slice none 0 0) 0 [] := ⟨World.ownsRow_nil _ _ _ _, fun g cur t fr h => by cases h⟩
theorem Own2.below {w w' : World} {base : Nat} {e : TypeId} {v : Value} {n : Nat} {xs : List Value} (h : Own2 w base e v n xs) (hb : Below w.heap.size w w') : Own2 w' base e v n xs := by
  obtain ⟨⟨hl, h1⟩, h2⟩ := h
  refine ⟨⟨hl, ?_⟩, fun g cur t fr hg hh => h2 g cur t fr hg ?_⟩
  · rcases h1 with h0 | ⟨g, cap, cur, rfl, hg, hh, r⟩
    · exact .inl h0
    · exact .inr ⟨g, cap, cur, rfl, hg, by rw [hb.block g (Array.getElem?_eq_some_iff.1 hh).1]; exact hh, r⟩
  · rcases h1 with ⟨rfl, _⟩ | ⟨g', cap, cur', rfl, _, hh', r⟩
    · cases hg
    · have e : g' = g := by simpa [Value.ownBlock] using hg
      subst e
      rw [← hb.block g' (Array.getElem?_eq_some_iff.1 hh').1]; exact hh
/-- what is written into such a list leaves all limbs -/
theorem Own2.spares {w w' : World} {base : Nat} {e : TypeId} {v : Value} {n : Nat} {xs : List Value} (h : Own2 w base e v n xs) (hg : w.grownBy w' v.ownBlock) : Spares w w' := by
  intro u ys hn
  obtain ⟨ho, a, cap, rfl, h1, h2, h3⟩ := hn
  refine ⟨ho, a, cap, rfl, h1, h2, fun hx => ?_⟩
  obtain ⟨b, off, rfl, hcell⟩ := h3 hx
  refine ⟨b, off, rfl, fun i hi => hg.cell (hcell i hi) fun e => ?_⟩
  have hc := hcell i hi
  cases hb : w.heap[b]? with
  | none => simp [World.cell?, hb] at hc
  | some ob =>
    cases ob with
    | cells cur t fr =>
      have hc' : cur[off + i]? = some (.int .u32 (lm ys i)) := by simpa [World.cell?, hb, lm] using hc
      have hm : (Value.int .u32 (lm ys i)) ∈ cur.toList := by
        rw [← Array.getElem?_toList] at hc'
        exact List.mem_of_getElem? hc'
      exact h.2 b cur t fr e.symm hb _ hm _ rfl
    | _ => simp [World.cell?, hb] at hc
theorem mem_zeroCells {n : Nat} {c : Value} (h : c ∈ (Builtin.zeroCells #[.bool false, .slice none 0 0] n).toList) : c = .bool false ∨ c = .slice none 0 0 := by
  simp only [Builtin.zeroCells, Array.toList_map, List.mem_map] at h
  obtain ⟨i, _, rfl⟩ := h
  have : i % (#[Value.bool false, .slice none 0 0] : Array Value).size < 2 := Nat.mod_lt _ (by decide)
  generalize i % (#[Value.bool false, .slice none 0 0] : Array Value).size = j at *
  match j, this with
  | 0, _ => exact .inl rfl
  | 1, _ => exact .inr rfl
theorem wp_app2 {P : Program} (w : World) {o : Oper} {a : Act} {K : Act → World → Prop} {Q : Exit → Act → World → Prop} (s x : Operand) (t : TypeId)
    (ho : o.op = .call { callee := .builtin .append, args := #[s, x], argTypes := #[t, t] })
    (base : Nat) (e : TypeId) (i : TypeInfo) (ht : P.underlying t = some (.slice e)) (hi : P.info? e = some i) (hz : i.zero = some (.agg #[.bool false, .slice none 0 0])) (hsize : i.size = 2) (hby : i.bytes = 32)
    (v : Value) (n : Nat) (xs : List Value) (hs : a.eval s = v) (hown : Own2 w base e v n xs)
    (b c : Nat) (b0 : Bool) (m0 : Option Addr) (l0 c0 : Nat) (hx : a.eval x = .slice (some ⟨b, 0, none⟩) 1 c) (hc0 : w.cell? ⟨b, 0, none⟩ = some (.bool b0)) (hc1 : w.cell? ⟨b, 1, none⟩ = some (.slice m0 l0 c0))
    (hn : n ≤ 1000000000) (hbase : base ≤ w.heap.size)
    (h : ∀ v' w', Own2 w' base e v' (n + 1) (xs ++ [.bool b0, .slice m0 l0 c0]) → w.grownBy w' v.ownBlock → (v'.ownBlock = v.ownBlock ∨ v'.ownBlock = some w.heap.size) → K (a.put o.dst v') w') : o.wp P a w K Q := by
  have hl : ([.bool b0, .slice m0 l0 c0] : List Value).length = 1 * i.size := by rw [hsize]; rfl
  have hnews : ∀ j u, ([.bool b0, .slice m0 l0 c0] : List Value)[j]? = some u → w.cell? ((⟨b, 0, none⟩ : Addr).add j) = some u := by
    intro j u hj
    match j with
    | 0 => simp only [List.getElem?_cons_zero, Option.some.injEq] at hj; rw [← hj]; exact hc0
    | 1 => simp only [List.getElem?_cons_succ, List.getElem?_cons_zero, Option.some.injEq] at hj; rw [← hj]; exact hc1
    | j + 2 => simp at hj
  have h1 : ∀ u ∈ ([.bool b0, .slice m0 l0 c0] : List Value), u.oneCell' = true := by
    intro u hu
    simp only [List.mem_cons, List.not_mem_nil, or_false] at hu
    rcases hu with rfl | rfl <;> rfl
  have hnu : ∀ u ∈ ([.bool b0, .slice m0 l0 c0] : List Value), ∀ z, u ≠ .int .u32 z := by
    intro u hu z
    simp only [List.mem_cons, List.not_mem_nil, or_false] at hu
    rcases hu with rfl | rfl <;> simp
  have hzn : ∀ k, ∀ u ∈ (Builtin.zeroCells #[.bool false, .slice none 0 0] k).toList, ∀ z, u ≠ .int .u32 z := by
    intro k u hu z
    rcases mem_zeroCells hu with rfl | rfl <;> simp
  have h63 : n + 1 ≤ maxLen := by unfold maxLen; omega
  obtain ⟨v', w', hr, h2, h3, h4⟩ := run_append_own (P := P) w base t o.type e i _ 2 32 ht hi hz hsize hby rfl (by decide) v n xs hown.1 ⟨b, 0, none⟩ 1 c [.bool b0, .slice m0 l0 c0] (by rw [hl, hsize]) hnews h1 h63 (by omega) hbase
  have hp : (∀ g cur tt fr, v'.ownBlock = some g → w'.heap[g]? = some (.cells cur tt fr) → ∀ u ∈ cur.toList, ∀ z, u ≠ .int .u32 z) ∧ (v'.ownBlock = v.ownBlock ∨ v'.ownBlock = some w.heap.size) := by
    rcases hown.1.2 with ⟨rfl, rfl⟩ | ⟨g0, cap, cur0, rfl, hbg, hg0, hnc, hcm, hcs, htake⟩
    · have hr' := run_append_nil (P := P) w t o.type e i _ ht hi hz ⟨b, 0, none⟩ 1 c [.bool b0, .slice m0 l0 c0] hl hnews (by decide) (by decide) (by rw [hby]; decide)
      rw [hr'] at hr
      simp only [Result.ok.injEq] at hr
      obtain ⟨rfl, rfl⟩ := hr
      refine ⟨?_, .inr rfl⟩
      intro g cur tt fr hg hh u hu z
      have e : w.heap.size = g := by simpa [Value.ownBlock] using hg
      subst e
      rw [show (w.heap.size : Nat) = w.drew.heap.size from rfl, heap_alloc_new] at hh
      simp only [Option.some.injEq, Obj.cells.injEq] at hh
      obtain ⟨rfl, _⟩ := hh
      rw [Array.toList_append] at hu
      rcases List.mem_append.1 hu with hu | hu
      · exact hnu u (by simpa using hu) z
      · exact hzn _ u hu z
    · have hall := hown.2 g0 cur0 e (0, 0) rfl hg0
      by_cases hroom : n + 1 ≤ cap
      · have hfit : n * i.size + ([.bool b0, .slice m0 l0 c0] : List Value).length ≤ cur0.size := by rw [hsize, hcs]; show n * 2 + 2 ≤ cap * 2; omega
        have hr' := run_append_room (P := P) w t o.type e i ht hi g0 n cap cur0 hg0 ⟨b, 0, none⟩ 1 c [.bool b0, .slice m0 l0 c0] hl hnews h1 hroom hfit
        rw [hr'] at hr
        simp only [Result.ok.injEq] at hr
        obtain ⟨rfl, rfl⟩ := hr
        refine ⟨?_, .inl rfl⟩
        intro g cur tt fr hg hh u hu z
        have e : g0 = g := by simpa [Value.ownBlock] using hg
        subst e
        rw [setRow_heap w g0 cur0 _ _ _ hg0] at hh
        simp only [Option.some.injEq, Obj.cells.injEq] at hh
        obtain ⟨rfl, _⟩ := hh
        simp only [List.mem_append] at hu
        rcases hu with (hu | hu) | hu
        · exact hall u (List.mem_of_mem_take hu) z
        · exact hnu u hu z
        · exact hall u (List.mem_of_mem_drop hu) z
      · have holds : ∀ j u, xs[j]? = some u → w.cell? ((⟨g0, 0, none⟩ : Addr).add j) = some u := hown.1.cells (g := g0) rfl
        have hr' := run_append_grow (P := P) w t o.type e i _ ht hi hz ⟨g0, 0, none⟩ n cap xs (by rw [hsize]; exact hown.1.1) holds ⟨b, 0, none⟩ 1 c [.bool b0, .slice m0 l0 c0] hl hnews (by omega) (by omega) (growslice_fits (by omega) (by rw [hby]; omega))
        rw [hr'] at hr
        simp only [Result.ok.injEq] at hr
        obtain ⟨rfl, rfl⟩ := hr
        refine ⟨?_, .inr rfl⟩
        intro g cur tt fr hg hh u hu z
        have e : w.heap.size = g := by simpa [Value.ownBlock] using hg
        subst e
        rw [show (w.heap.size : Nat) = w.drew.heap.size from rfl, heap_alloc_new] at hh
        simp only [Option.some.injEq, Obj.cells.injEq] at hh
        obtain ⟨rfl, _⟩ := hh
        simp only [Array.toList_append, List.mem_append] at hu
        rcases hu with (hu | hu) | hu
        · rw [← htake] at hu; exact hall u (List.mem_of_mem_take (by simpa using hu)) z
        · exact hnu u (by simpa using hu) z
        · exact hzn _ u hu z
  unfold Oper.wp execOp
  simp only [ho, resolve, invoke, builtin, Sem.run_bind, Sem.run_pure, Result.andThen_ok, List.map_toArray, List.map_cons, List.map_nil, hs, hx, hr]
  exact h v' w' ⟨h2, hp.1⟩ h3 hp.2
end Go.Proofs.Ytapodkjmhenceaa

namespace Go.Proofs.Ytapodkjmhenceaa
open Go.RowKit

/-- a list of one's own that holds these numbers -/
def ListI (w : World) (base : Nat) (v : Value) (zs : List Int) : Prop :=
  ∃ xs, Own2 w base 31 v zs.length xs ∧ ∀ i, i < zs.length → ∃ s m n c, xs[i * 2]? = some (.bool s) ∧ xs[i * 2 + 1]? = some (.slice m n c) ∧ IntAt w (.agg #[.bool s, .slice m n c]) (zs.getD i 0)
theorem ListI.nil (w : World) (base : Nat) : ListI w base (.slice none 0 0) [] := ⟨[], Own2.nil _ _ _, fun _ hi => absurd hi (Nat.not_lt_zero _)⟩
theorem ListI.below {w w' : World} {base : Nat} {v : Value} {zs : List Int} (h : ListI w base v zs) (hb : Below w.heap.size w w') : ListI w' base v zs := by
  obtain ⟨xs, h1, h2⟩ := h
  refine ⟨xs, h1.below hb, fun i hi => ?_⟩
  obtain ⟨s, m, n, c, k1, k2, k3⟩ := h2 i hi
  exact ⟨s, m, n, c, k1, k2, k3.below hb⟩
theorem ListI.drew {w : World} {base : Nat} {v : Value} {zs : List Int} (h : ListI w base v zs) : ListI w.drew base v zs := h
theorem ListI.app {w w' : World} {base : Nat} {v v' : Value} {zs : List Int} {xs : List Value} {s : Bool} {m : Option Addr} {n c : Nat} {z : Int} (h1 : Own2 w base 31 v zs.length xs)
    (h2 : ∀ i, i < zs.length → ∃ s m n c, xs[i * 2]? = some (.bool s) ∧ xs[i * 2 + 1]? = some (.slice m n c) ∧ IntAt w (.agg #[.bool s, .slice m n c]) (zs.getD i 0)) (hz : IntAt w (.agg #[.bool s, .slice m n c]) z)
    (ho : Own2 w' base 31 v' (zs.length + 1) (xs ++ [.bool s, .slice m n c])) (hg : w.grownBy w' v.ownBlock) : ListI w' base v' (zs ++ [z]) := by
  have hk := h1.spares hg
  have hl : xs.length = zs.length * 2 := h1.1.1
  refine ⟨xs ++ [.bool s, .slice m n c], by rw [List.length_append]; exact ho, fun i hi => ?_⟩
  rw [List.length_append, List.length_singleton] at hi
  rcases Nat.lt_or_ge i zs.length with h | h
  · obtain ⟨s', m', n', c', k1, k2, k3⟩ := h2 i h
    refine ⟨s', m', n', c', ?_, ?_, ?_⟩
    · rw [List.getElem?_append_left (by omega)]; exact k1
    · rw [List.getElem?_append_left (by omega)]; exact k2
    · rw [List.getD_eq_getElem?_getD, List.getElem?_append_left h, ← List.getD_eq_getElem?_getD]; exact k3.keep hk
  · have e : i = zs.length := by omega
    subst e
    refine ⟨s, m, n, c, ?_, ?_, ?_⟩
    · rw [List.getElem?_append_right (by omega), hl, Nat.sub_self]; rfl
    · rw [List.getElem?_append_right (by omega), hl, show zs.length * 2 + 1 - zs.length * 2 = 1 by omega]; rfl
    · rw [List.getD_eq_getElem?_getD, List.getElem?_append_right (Nat.le_refl _), Nat.sub_self]; exact hz.keep hk
theorem ListI.other {w w' : World} {base : Nat} {v : Value} {zs : List Int} {r : Option Nat} (h : ListI w base v zs) (hg : w.grownBy w' r) (hs : Spares w w') (hr : ∀ g, v.ownBlock = some g → r ≠ some g) : ListI w' base v zs := by
  obtain ⟨xs, ⟨⟨hl, h1⟩, h2⟩, h3⟩ := h
  refine ⟨xs, ⟨⟨hl, ?_⟩, fun g cur t fr hgb hh => h2 g cur t fr hgb ?_⟩, fun i hi => ?_⟩
  · rcases h1 with h0 | ⟨g, cap, cur, rfl, hbg, hh, q⟩
    · exact .inl h0
    · exact .inr ⟨g, cap, cur, rfl, hbg, by rw [hg.block g (Array.getElem?_eq_some_iff.1 hh).1 (Ne.symm (hr g rfl))]; exact hh, q⟩
  · rcases h1 with ⟨rfl, _⟩ | ⟨g', cap, cur', rfl, _, hh', q⟩
    · cases hgb
    · have e : g' = g := by simpa [Value.ownBlock] using hgb
      subst e
      rw [← hg.block g' (Array.getElem?_eq_some_iff.1 hh').1 (Ne.symm (hr g' rfl))]; exact hh
  · obtain ⟨s, m, n, c, k1, k2, k3⟩ := h3 i hi
    exact ⟨s, m, n, c, k1, k2, k3.keep hs⟩
theorem ListI.lt {w : World} {base : Nat} {v : Value} {zs : List Int} (h : ListI w base v zs) {g : Nat} (hg : v.ownBlock = some g) : base ≤ g ∧ g < w.heap.size := by
  obtain ⟨xs, h1, _⟩ := h
  exact h1.1.lt g hg
/-- a list of one's own that holds these numbers -/
def ListR (w : World) (base : Nat) (v : Value) (zs : List Int) : Prop :=
  ∃ xs, Own2 w base 35 v zs.length xs ∧ ∀ i, i < zs.length → ∃ s m n c, xs[i * 2]? = some (.bool s) ∧ xs[i * 2 + 1]? = some (.slice m n c) ∧ RInt w (.agg #[.bool s, .slice m n c]) (zs.getD i 0)
theorem ListR.nil (w : World) (base : Nat) : ListR w base (.slice none 0 0) [] := ⟨[], Own2.nil _ _ _, fun _ hi => absurd hi (Nat.not_lt_zero _)⟩
theorem ListR.below {w w' : World} {base : Nat} {v : Value} {zs : List Int} (h : ListR w base v zs) (hb : Below w.heap.size w w') : ListR w' base v zs := by
  obtain ⟨xs, h1, h2⟩ := h
  refine ⟨xs, h1.below hb, fun i hi => ?_⟩
  obtain ⟨s, m, n, c, k1, k2, k3⟩ := h2 i hi
  exact ⟨s, m, n, c, k1, k2, k3.below hb⟩
theorem ListR.drew {w : World} {base : Nat} {v : Value} {zs : List Int} (h : ListR w base v zs) : ListR w.drew base v zs := h
theorem ListR.app {w w' : World} {base : Nat} {v v' : Value} {zs : List Int} {xs : List Value} {s : Bool} {m : Option Addr} {n c : Nat} {z : Int} (h1 : Own2 w base 35 v zs.length xs)
    (h2 : ∀ i, i < zs.length → ∃ s m n c, xs[i * 2]? = some (.bool s) ∧ xs[i * 2 + 1]? = some (.slice m n c) ∧ RInt w (.agg #[.bool s, .slice m n c]) (zs.getD i 0)) (hz : RInt w (.agg #[.bool s, .slice m n c]) z)
    (ho : Own2 w' base 35 v' (zs.length + 1) (xs ++ [.bool s, .slice m n c])) (hg : w.grownBy w' v.ownBlock) : ListR w' base v' (zs ++ [z]) := by
  have hk := h1.spares hg
  have hl : xs.length = zs.length * 2 := h1.1.1
  refine ⟨xs ++ [.bool s, .slice m n c], by rw [List.length_append]; exact ho, fun i hi => ?_⟩
  rw [List.length_append, List.length_singleton] at hi
  rcases Nat.lt_or_ge i zs.length with h | h
  · obtain ⟨s', m', n', c', k1, k2, k3⟩ := h2 i h
    refine ⟨s', m', n', c', ?_, ?_, ?_⟩
    · rw [List.getElem?_append_left (by omega)]; exact k1
    · rw [List.getElem?_append_left (by omega)]; exact k2
    · rw [List.getD_eq_getElem?_getD, List.getElem?_append_left h, ← List.getD_eq_getElem?_getD]; exact k3.keep hk
  · have e : i = zs.length := by omega
    subst e
    refine ⟨s, m, n, c, ?_, ?_, ?_⟩
    · rw [List.getElem?_append_right (by omega), hl, Nat.sub_self]; rfl
    · rw [List.getElem?_append_right (by omega), hl, show zs.length * 2 + 1 - zs.length * 2 = 1 by omega]; rfl
    · rw [List.getD_eq_getElem?_getD, List.getElem?_append_right (Nat.le_refl _), Nat.sub_self]; exact hz.keep hk
theorem ListR.other {w w' : World} {base : Nat} {v : Value} {zs : List Int} {r : Option Nat} (h : ListR w base v zs) (hg : w.grownBy w' r) (hs : Spares w w') (hr : ∀ g, v.ownBlock = some g → r ≠ some g) : ListR w' base v zs := by
  obtain ⟨xs, ⟨⟨hl, h1⟩, h2⟩, h3⟩ := h
  refine ⟨xs, ⟨⟨hl, ?_⟩, fun g cur t fr hgb hh => h2 g cur t fr hgb ?_⟩, fun i hi => ?_⟩
  · rcases h1 with h0 | ⟨g, cap, cur, rfl, hbg, hh, q⟩
    · exact .inl h0
    · exact .inr ⟨g, cap, cur, rfl, hbg, by rw [hg.block g (Array.getElem?_eq_some_iff.1 hh).1 (Ne.symm (hr g rfl))]; exact hh, q⟩
  · rcases h1 with ⟨rfl, _⟩ | ⟨g', cap, cur', rfl, _, hh', q⟩
    · cases hgb
    · have e : g' = g := by simpa [Value.ownBlock] using hgb
      subst e
      rw [← hg.block g' (Array.getElem?_eq_some_iff.1 hh').1 (Ne.symm (hr g' rfl))]; exact hh
  · obtain ⟨s, m, n, c, k1, k2, k3⟩ := h3 i hi
    exact ⟨s, m, n, c, k1, k2, k3.keep hs⟩
theorem ListR.lt {w : World} {base : Nat} {v : Value} {zs : List Int} (h : ListR w base v zs) {g : Nat} (hg : v.ownBlock = some g) : base ≤ g ∧ g < w.heap.size := by
  obtain ⟨xs, h1, _⟩ := h
  exact h1.1.lt g hg
theorem ListI.ints {w : World} {base : Nat} {v : Value} {zs : List Int} (h : ListI w base v zs) : Ints w v zs := by
  obtain ⟨xs, ⟨⟨hl, h1⟩, _⟩, h3⟩ := h
  rcases h1 with ⟨rfl, h0⟩ | ⟨g, cap, cur, rfl, hbg, hh, hn, hm, hc, ht⟩
  · have : zs = [] := List.eq_nil_of_length_eq_zero h0
    subst this
    exact Ints.nil w
  · refine ⟨_, cap, rfl, hn, hm, fun _ => ⟨g, 0, rfl, fun i hi => ?_⟩⟩
    obtain ⟨s, m, n, c, k1, k2, k3⟩ := h3 i hi
    have at' : ∀ j x, xs[j]? = some x → w.cell? ⟨g, j, none⟩ = some x := by
      intro j x hj
      have hjl : j < xs.length := (List.getElem?_eq_some_iff.1 hj).1
      rw [← ht, List.getElem?_take, if_pos (by omega)] at hj
      unfold World.cell?
      simp only [hh]
      rwa [← Array.getElem?_toList]
    exact ⟨s, m, c, n, by rw [Nat.zero_add]; exact at' _ _ k1, by rw [Nat.zero_add]; exact at' _ _ k2, k3⟩
/-- a list of the document's numbers in memory -/
def RInts (w : World) (v : Value) (zs : List Int) : Prop :=
  ∃ a cap, v = .slice a zs.length cap ∧ zs.length ≤ cap ∧ cap ≤ maxLen ∧ (zs ≠ [] → ∃ b off, a = some ⟨b, off, none⟩ ∧
    ∀ i, i < zs.length → ∃ s m c n, w.cell? ⟨b, off + i * 2, none⟩ = some (.bool s) ∧ w.cell? ⟨b, off + i * 2 + 1, none⟩ = some (.slice m n c) ∧ RInt w (.agg #[.bool s, .slice m n c]) (zs.getD i 0))
theorem RInts.below {w w' : World} {v : Value} {zs : List Int} (h : RInts w v zs) (hb : Below w.heap.size w w') : RInts w' v zs := by
  obtain ⟨a, cap, rfl, h1, h2, h3⟩ := h
  refine ⟨a, cap, rfl, h1, h2, fun hx => ?_⟩
  obtain ⟨b, off, rfl, hc⟩ := h3 hx
  refine ⟨b, off, rfl, fun i hi => ?_⟩
  obtain ⟨s, m, c, n, k1, k2, k3⟩ := hc i hi
  exact ⟨s, m, c, n, (hb.cell (World.block_lt_of_cell? w _ k1)).trans k1, (hb.cell (World.block_lt_of_cell? w _ k2)).trans k2, k3.below hb⟩
theorem RInts.at {w : World} {a : Option Addr} {n cap : Nat} {zs : List Int} (h : RInts w (.slice a n cap) zs) {i : Nat} (hi : i < zs.length) :
    ∃ b off, a = some ⟨b, off, none⟩ ∧ ∃ s m l c, CellAt w ⟨b, off + i * 2, none⟩ (.bool s) ∧ CellAt w ⟨b, off + i * 2 + 1, none⟩ (.slice m l c) ∧ RInt w (.agg #[.bool s, .slice m l c]) (zs.getD i 0) := by
  obtain ⟨a', c', he, _, _, h3⟩ := h
  simp only [Value.slice.injEq] at he
  obtain ⟨rfl, _, rfl⟩ := he
  obtain ⟨b, off, rfl, h⟩ := h3 (by intro e; rw [e] at hi; simp at hi)
  obtain ⟨s, m, c, l, k1, k2, k3⟩ := h i hi
  exact ⟨b, off, rfl, s, m, l, c, ⟨k1⟩, ⟨k2⟩, k3⟩
theorem ListR.rints {w : World} {base : Nat} {v : Value} {zs : List Int} (h : ListR w base v zs) : RInts w v zs := by
  obtain ⟨xs, ⟨⟨hl, h1⟩, _⟩, h3⟩ := h
  rcases h1 with ⟨rfl, h0⟩ | ⟨g, cap, cur, rfl, hbg, hh, hn, hm, hc, ht⟩
  · have : zs = [] := List.eq_nil_of_length_eq_zero h0
    subst this
    exact ⟨none, 0, rfl, Nat.le_refl _, Nat.zero_le _, fun h => absurd rfl h⟩
  · refine ⟨_, cap, rfl, hn, hm, fun _ => ⟨g, 0, rfl, fun i hi => ?_⟩⟩
    obtain ⟨s, m, n, c, k1, k2, k3⟩ := h3 i hi
    have at' : ∀ j x, xs[j]? = some x → w.cell? ⟨g, j, none⟩ = some x := by
      intro j x hj
      have hjl : j < xs.length := (List.getElem?_eq_some_iff.1 hj).1
      rw [← ht, List.getElem?_take, if_pos (by omega)] at hj
      unfold World.cell?
      simp only [hh]
      rwa [← Array.getElem?_toList]
    exact ⟨s, m, c, n, by rw [Nat.zero_add]; exact at' _ _ k1, by rw [Nat.zero_add]; exact at' _ _ k2, k3⟩
end Go.Proofs.Ytapodkjmhenceaa

namespace Go.Proofs.Ytapodkjmhenceaa
open Go.RowKit

theorem pw_abs {a : Int} {j : Nat} (ha : a.natAbs ≤ 16) (hj : j ≤ 16) : (a ^ j).natAbs ≤ 18446744073709551616 := by
  rw [Int.natAbs_pow]
  exact Nat.le_trans (Nat.pow_le_pow_left ha j) (Nat.le_trans (Nat.pow_le_pow_right (by decide) hj) (by decide))
theorem pw_sz {a : Int} {j : Nat} (ha : a.natAbs ≤ 16) (hj : j ≤ 16) : SzI 3 (a ^ j) := by
  have := pw_abs ha hj
  unfold SzI BB
  omega
def powf (a b : Int) (n j : Nat) : Int := a ^ j * b ^ (n - 1 - j)
theorem powf_sz {a b : Int} {n j : Nat} (ha : a.natAbs ≤ 16) (hb : b.natAbs ≤ 16) (hn : n ≤ 16) (hj : j < n) : SzI 6 (powf a b n j) := SzI.mul (pw_sz ha (by omega)) (pw_sz hb (by omega))

set_option maxRecDepth 100000 in
set_option maxHeartbeats 1000000 in
theorem power_any (x : Int) (E : Nat) (Ez : Int) (w : World) (h1 : -16 ≤ x) (h2 : x ≤ 16) (hE : E ≤ 16) (hz : Ez = E) :
    Calls Try.prog 70 #[.int .i64 x, .int .i64 Ez] w fun e w' => ∃ v, e = .returned v ∧ IntAt w' v (x ^ E) ∧ Below w.heap.size w w' := by
  subst hz
  have BR := hide (Box.new w (.bool false) (.slice none 0 0))
  have HB := hide (below_alloc w (.cells #[.bool false, .slice none 0 0] 31))
  have LX : Hid ((lim x.natAbs).length ≤ 1) := hide (lim_length_le (by unfold BB; omega))
  go_enter Try.func70, Try.ntmps70
  go_wp2_with fail
  generalize w.alloc (.cells #[.bool false, .slice none 0 0] 31) = w0 at *
  refine (iof_any x _ (by omega) (by omega)).mono ?_
  rintro e w1 ⟨v1, rfl, i1, hb⟩
  replace BR := hide (BR.out.step hb)
  replace HB := hide (HB.out.trans (hb.mono HB.out.size))
  have I1 := hide i1
  clear hb i1
  go_wp2_with fail
  refine (ipow_any _ x E _ I1.out (by have := LX.out; omega) (by omega) (by omega)).mono ?_
  rintro e w2 ⟨v, z, a, L, rfl, iz, hL, hL2, hp, hb⟩
  obtain ⟨rfl, rfl⟩ : z = x ^ E ∧ a = 0 := by
    have hLL : L ≤ 32 := by have := LX.out; omega
    rcases hp with ⟨h, _⟩ | ⟨_, h3, h4, _⟩ | ⟨_, _, h5, h6⟩
    · omega
    · have : 2048 ≤ 65536 / L := (Nat.le_div_iff_mul_le h3).2 (by omega)
      omega
    · exact ⟨by rw [h5]; simp, h6⟩
  obtain ⟨s, m, l, c, rfl, iz⟩ := iz.cells
  replace BR := hide (BR.out.step hb)
  replace HB := hide (HB.out.trans (hb.mono HB.out.size))
  have IZ := hide iz
  clear hb iz hL hL2 hp I1
  go_upto_region 2 with fail
  have al := below_alloc w2 (.cells #[.bool s, .slice m l c] 31)
  have XV := hide (Box.new w2 (.bool s) (.slice m l c))
  replace BR := hide (BR.out.step al)
  replace HB := hide (HB.out.trans (al.mono HB.out.size))
  replace IZ := hide (IZ.out.below al)
  clear al
  generalize w2.alloc (.cells #[.bool s, .slice m l c] 31) = w3 at *
  generalize w2.heap.size = gx at *
  have c0 := XV.out.cell0
  have c1 := XV.out.cell1
  have d0 := BR.out.cell0
  have d1 := BR.out.cell1
  have f0 := BR.out.free 0
  have f1 := BR.out.free 1
  go_wp2
  refine ret_int rfl w.heap.size _ _ _ _ rfl ((BR.out.set0 _).set1 _) rfl ?_
  exact ⟨_, rfl, IZ.out.keep (BR.out.keeps (by simp) (by simp) _ _), below_put HB.out (Nat.le_refl _) _ _⟩

set_option maxRecDepth 100000 in
set_option maxHeartbeats 4000000 in
theorem powers_in (a b : Int) (n : Nat) (w : World) (h : inB a b = true) (hn : n ≤ 16) :
    Calls Try.prog 20 #[.agg #[.int .i64 a, .int .i64 b], .int .i64 n] w fun e w' => ∃ g, e = .returned (.tuple #[.slice (some ⟨g, 0, none⟩) n n, .int .i64 0]) ∧ IRow w' g ((List.range n).map (powf a b n)) ∧ Below w.heap.size w w' := by
  have hmk := run_makeI n (by omega)
  have HIN := hide (in_yes h)
  have HX := hide (Box2.new w 61 (.int .i64 a) (.int .i64 b))
  have HB := hide (below_alloc w (.cells #[.int .i64 a, .int .i64 b] 61))
  go_enter Try.func20, Try.ntmps20
  go_wp2_with fail
  generalize w.alloc (.cells #[.int .i64 a, .int .i64 b] 61) = w0 at *
  refine (in_any a b _).mono ?_
  rintro e w1 ⟨rfl, hb⟩
  rw [h]
  replace HX := hide (HX.out.step hb)
  replace HB := hide (HB.out.trans (hb.mono HB.out.size))
  clear hb
  have HR := hide (IRow.new w1 n)
  have hb := below_alloc w1 (.cells (madeCells #[.bool false, .slice none 0 0] (n * 2)) 31)
  have HG := hide HX.out.lt
  replace HX := hide (HX.out.step hb)
  replace HB := hide (HB.out.trans (hb.mono HB.out.size))
  clear hb
  go_wp2
  clear hmk
  generalize w1.alloc (.cells (madeCells #[.bool false, .slice none 0 0] (n * 2)) 31) = w2 at *
  generalize w1.heap.size = g at *
  go_loopw [23, 7] (fun iv _ wr => ∃ k : Nat, k ≤ n ∧ iv = .int .i64 k ∧ IRow wr g (rowTo (powf a b n) n k) ∧ Box2 wr w.heap.size 61 (.int .i64 a) (.int .i64 b) ∧ Below w.heap.size w wr) (fun iv _ _ => n - (intOf iv).toNat)
  case atStart => exact ⟨0, Nat.zero_le _, rfl, by rw [rowTo_zero]; exact HR.out, HX.out, HB.out⟩
  case round =>
    clear HR HX HB
    obtain ⟨k, hk, rfl, hrow, hx, hbel⟩ := hrel
    have HR := hide hrow
    have HX := hide hx
    have HB := hide hbel
    clear hrow hx hbel
    by_cases hlt : k < n
    · go_upto_region 7 with fail
      refine wp_calm (fun w' => Below w.heap.size w w' ∧ Box2 w' w.heap.size 61 (.int .i64 a) (.int .i64 b) ∧ IRow w' g (rowTo (powf a b n) n k)) (fun j => j != 15) 16 #[false, false, false, false, false, false, false, false, false, false, false, false, false, false, false, false] (by kernel_rfl) rfl rfl ?_
      have HF := hide (And.intro (HB.out.drew) (And.intro (HX.out.drew) (HR.out.drew)))
      generalize wr.drew = wrd at *
      refine Calm.take (i := 0) (v := ?_) (a' := ?_) (l' := #[true, false, false, false, false, false, false, false, false, false, false, false, false, false, false, false]) (d := some 26) rfl (by kernel_rfl) (by kernel_rfl) (by kernel_rfl) (by kernel_rfl) (fun _ _ _ h => h) HF.out rfl ?_ rfl rfl ?_ ?_
      rotate_left
      · intro w' hF; clear hF; go_simp; try rfl
      rotate_left
      · simp only [Act.put]; exact rfl
      refine Calm.take (i := 1) (v := ?_) (a' := ?_) (l' := #[true, true, false, false, false, false, false, false, false, false, false, false, false, false, false, false]) (d := some 27) rfl (by kernel_rfl) (by kernel_rfl) (by kernel_rfl) (by kernel_rfl) (fun _ _ _ h => h) HF.out rfl ?_ rfl rfl ?_ ?_
      rotate_left
      · intro w' hF; clear hF; go_simp; try rfl
      rotate_left
      · simp only [Act.put]; exact rfl
      refine Calm.take (i := 2) (v := ?_) (a' := ?_) (l' := #[true, true, true, false, false, false, false, false, false, false, false, false, false, false, false, false]) (d := some 28) rfl (by kernel_rfl) (by kernel_rfl) (by kernel_rfl) (by kernel_rfl) (fun _ _ _ h => h) HF.out rfl ?_ rfl rfl ?_ ?_
      rotate_left
      · intro w' hF; clear hF; go_simp; try rfl
      rotate_left
      · simp only [Act.put]; exact rfl
      refine Calm.take (i := 3) (v := ?_) (a' := ?_) (l' := #[true, true, true, true, false, false, false, false, false, false, false, false, false, false, false, false]) (d := some 29) rfl (by kernel_rfl) (by kernel_rfl) (by kernel_rfl) (by kernel_rfl) (fun _ _ _ h => h) HF.out rfl ?_ rfl rfl ?_ ?_
      rotate_left
      · intro w' hF; have f10 := hF.2.1.cell0; have f11 := hF.2.1.cell1; clear hF; go_simp; try rfl
      rotate_left
      · simp only [Act.put]; exact rfl
      refine Calm.take (i := 4) (v := ?_) (a' := ?_) (l' := #[true, true, true, true, true, false, false, false, false, false, false, false, false, false, false, false]) (d := some 30) rfl (by kernel_rfl) (by kernel_rfl) (by kernel_rfl) (by kernel_rfl) (fun _ _ _ h => h) HF.out rfl ?_ rfl rfl ?_ ?_
      rotate_left
      · intro w' hF; clear hF; go_simp; try rfl
      rotate_left
      · simp only [Act.put]; exact rfl
      refine Calm.take (i := 6) (v := ?_) (a' := ?_) (l' := #[true, true, true, true, true, false, true, false, false, false, false, false, false, false, false, false]) (d := some 32) rfl (by kernel_rfl) (by kernel_rfl) (by kernel_rfl) (by kernel_rfl) (fun _ _ _ h => h) HF.out rfl ?_ rfl rfl ?_ ?_
      rotate_left
      · intro w' hF; clear hF; go_simp; try rfl
      rotate_left
      · simp only [Act.put]; exact rfl
      refine Calm.take (i := 7) (v := ?_) (a' := ?_) (l' := #[true, true, true, true, true, false, true, true, false, false, false, false, false, false, false, false]) (d := some 33) rfl (by kernel_rfl) (by kernel_rfl) (by kernel_rfl) (by kernel_rfl) (fun _ _ _ h => h) HF.out rfl ?_ rfl rfl ?_ ?_
      rotate_left
      · intro w' hF; have f10 := hF.2.1.cell0; have f11 := hF.2.1.cell1; clear hF; go_simp; try rfl
      rotate_left
      · simp only [Act.put]; exact rfl
      refine Calm.take (i := 8) (v := ?_) (a' := ?_) (l' := #[true, true, true, true, true, false, true, true, true, false, false, false, false, false, false, false]) (d := some 34) rfl (by kernel_rfl) (by kernel_rfl) (by kernel_rfl) (by kernel_rfl) (fun _ _ _ h => h) HF.out rfl ?_ rfl rfl ?_ ?_
      rotate_left
      · intro w' hF; clear hF; go_simp; try rfl
      rotate_left
      · simp only [Act.put]; exact rfl
      refine Calm.take (i := 9) (v := ?_) (a' := ?_) (l' := #[true, true, true, true, true, false, true, true, true, true, false, false, false, false, false, false]) (d := some 35) rfl (by kernel_rfl) (by kernel_rfl) (by kernel_rfl) (by kernel_rfl) (fun _ _ _ h => h) HF.out rfl ?_ rfl rfl ?_ ?_
      rotate_left
      · intro w' hF; clear hF; go_simp; try rfl
      rotate_left
      · simp only [Act.put]; exact rfl
      refine Calm.take (i := 10) (v := ?_) (a' := ?_) (l' := #[true, true, true, true, true, false, true, true, true, true, true, false, false, false, false, false]) (d := some 36) rfl (by kernel_rfl) (by kernel_rfl) (by kernel_rfl) (by kernel_rfl) (fun _ _ _ h => h) HF.out rfl ?_ rfl rfl ?_ ?_
      rotate_left
      · intro w' hF; clear hF; go_simp; try rfl
      rotate_left
      · simp only [Act.put]; exact rfl
      refine Calm.take (i := 11) (v := ?_) (a' := ?_) (l' := #[true, true, true, true, true, false, true, true, true, true, true, true, false, false, false, false]) (d := some 37) rfl (by kernel_rfl) (by kernel_rfl) (by kernel_rfl) (by kernel_rfl) (fun _ _ _ h => h) HF.out rfl ?_ rfl rfl ?_ ?_
      rotate_left
      · intro w' hF; clear hF; go_simp; try rfl
      rotate_left
      · simp only [Act.put]; exact rfl
      refine Calm.one (i := 5) (l' := #[true, true, true, true, true, true, true, true, true, true, true, true, false, false, false, false]) (by kernel_rfl) rfl rfl rfl fun K hK => ?_
      go_simp
      refine (power_any a k _ _ HIN.out.1.1 HIN.out.1.2 (by omega) rfl).mono ?_
      rintro e u1 ⟨v, rfl, i, hb⟩
      have HF' := hide (And.intro (HF.out.1.trans ((hb).mono HF.out.1.size)) (And.intro (HF.out.2.1.step (hb)) (HF.out.2.2.step (hb))))
      have T1 := hide (i)
      refine hK _ _ (fun _ => HF'.out) ?_
      clear hK K HF hb i
      have HF := hide HF'.out
      clear HF'
      refine Calm.one (i := 12) (l' := #[true, true, true, true, true, true, true, true, true, true, true, true, true, false, false, false]) (by kernel_rfl) rfl rfl rfl fun K hK => ?_
      go_simp
      refine (power_any b (n - 1 - k) _ _ HIN.out.2.1 HIN.out.2.2 (by omega) (by rw [IntKind.wrap_i64, IntKind.wrap_i64]; omega)).mono ?_
      rintro e u2 ⟨v, rfl, i, hb⟩
      replace T1 := hide (T1.out.below (hb))
      have HF' := hide (And.intro (HF.out.1.trans ((hb).mono HF.out.1.size)) (And.intro (HF.out.2.1.step (hb)) (HF.out.2.2.step (hb))))
      have T2 := hide (i)
      refine hK _ _ (fun _ => HF'.out) ?_
      clear hK K HF hb i
      have HF := hide HF'.out
      clear HF'
      refine Calm.one (i := 13) (l' := #[true, true, true, true, true, true, true, true, true, true, true, true, true, true, false, false]) (by kernel_rfl) rfl rfl rfl fun K hK => ?_
      go_simp
      refine (imul_any _ _ (a ^ k) (b ^ (n - 1 - k)) _ T1.out T2.out (SzI.len (pw_sz (by have k := HIN.out; omega) (by omega)) (by decide)) (SzI.len (pw_sz (by have k := HIN.out; omega) (by omega)) (by decide))).mono ?_
      rintro e u3 ⟨v, rfl, i, hb⟩
      obtain ⟨s3, m3, l3, c3, rfl, i⟩ := i.cells
      clear T1
      clear T2
      have HF' := hide (And.intro (HF.out.1.trans ((hb).mono HF.out.1.size)) (And.intro (HF.out.2.1.step (hb)) (HF.out.2.2.step (hb))))
      have T3 := hide (i)
      refine hK _ _ (fun _ => HF'.out) ?_
      clear hK K HF hb i
      have HF := hide HF'.out
      clear HF'
      refine Calm.take (i := 14) (v := ?_) (a' := ?_) (l' := #[true, true, true, true, true, true, true, true, true, true, true, true, true, true, true, false]) (d := some 40) rfl (by kernel_rfl) (by kernel_rfl) (by kernel_rfl) (by kernel_rfl) (fun _ _ _ h => h) HF.out rfl ?_ rfl rfl ?_ ?_
      rotate_left
      · intro w' hF; clear hF; go_simp; try rfl
      rotate_left
      · simp only [Act.put]; exact rfl
      refine Calm.one (i := 15) (l' := #[true, true, true, true, true, true, true, true, true, true, true, true, true, true, true, true]) (by kernel_rfl) rfl rfl rfl fun K hK => ?_
      obtain ⟨s0, m0, n0, c0, g1, g2, g3⟩ := HF.out.2.2.cells k (by rw [rowTo_len]; exact hlt)
      have f1 := HF.out.2.2.free (k * 2)
      have f2 := HF.out.2.2.free (k * 2 + 1)
      clear g3
      go_simp
      refine hK _ _ (fun h => absurd h (by decide)) ?_
      clear hK K
      refine Calm.done (by kernel_rfl) ?_
      go_wp2
      go_roundw
      case rel => exact ⟨k + 1, by omega, by go_num, by rw [← rowTo_set]; exact HF.out.2.2.put (by rw [rowTo_len]; exact hlt) T3.out, (HF.out.2.1.set_ne (by have := HG.out; omega) _).set_ne (by have := HG.out; omega) _, below_two HF.out.1 (by have := HG.out; omega) _ _⟩
      case measure => simp [intOf]; omega
    · have e : k = n := by omega
      subst e
      go_wp2
      go_ret2
      exact ⟨g, rfl, by rw [← rowTo_all]; exact HR.out, HB.out⟩
end Go.Proofs.Ytapodkjmhenceaa

namespace Go.Proofs.Ytapodkjmhenceaa
open Go.RowKit

set_option maxRecDepth 100000 in
set_option maxHeartbeats 8000000 in
theorem rpow_any (v : Value) (x : Int) (E : Nat) (w : World) (h : RInt w v x) (hE : E ≤ 1000) (l1 : ∀ i, i ≤ E → (D.lim (x ^ i).natAbs).length ≤ 100000000) (lx : (D.lim x.natAbs).length ≤ 100000000) :
    Calls Try.prog 71 #[v, .int .i64 (E : Int)] w fun r w' => ∃ v', r = .returned v' ∧ RInt w' v' (x ^ E) ∧ Below w.heap.size w w' := by
  have I0 := hide h
  obtain ⟨b1, n1, a1, c1, rfl, hn1, hz, h01⟩ := h
  generalize (D.lim n1).length = L1 at *
  have HE := hide (nboxes2 35 w (.bool b1) (.slice a1 L1 c1) (.bool false) (.slice none 0 0))
  have I1 := hide (I0.out.below HE.out.2.2)
  have P0 := hide HE.out.1
  have P1 := hide HE.out.2.1
  have HB := hide HE.out.2.2
  have HLI := hide l1
  have HLX := hide lx
  clear I0 HE hn1 hz h01 l1 lx
  go_enter Try.func71, Try.ntmps71
  go_wp2_with fail
  refine (rof_any 1 _ (by decide) (by decide)).mono ?_
  rintro r w2 ⟨v2, rfl, n2, hb⟩
  obtain ⟨s2, k2, m2, d2, rfl, q1, q2, q3⟩ := n2
  have n2 : RInt w2 (.agg #[.bool s2, .slice m2 (D.lim k2).length d2]) 1 := ⟨s2, k2, m2, d2, rfl, q1, q2, q3⟩
  clear q1 q2 q3
  generalize (D.lim k2).length = l2 at *
  replace HB := hide (HB.out.trans (hb.mono HB.out.size))
  replace P0 := hide (P0.out.step hb)
  replace P1 := hide (P1.out.step hb)
  replace I1 := hide (I1.out.below hb)
  clear hb
  go_upto_region 2 with fail
  have al := below_alloc w2 (.cells #[.bool s2, .slice m2 l2 d2] 35)
  have PP := hide (Box2.new w2 35 (.bool s2) (.slice m2 l2 d2))
  have LTP : Hid (w.heap.size + 1 < w2.heap.size) := hide P1.out.lt
  replace HB := hide (HB.out.trans (al.mono HB.out.size))
  replace P0 := hide (P0.out.step al)
  replace P1 := hide (P1.out.step al)
  replace I1 := hide (I1.out.below al)
  have IP := hide (n2.below al)
  clear al n2
  generalize w2.alloc (.cells #[.bool s2, .slice m2 l2 d2] 35) = w3 at *
  generalize w2.heap.size = gp at *
  go_wp2
  go_loopw [6] (fun iv wr => ∃ (i : Nat) (s : Bool) (m : Option Addr) (n c : Nat), i ≤ E ∧ iv = .int .i64 (i : Int) ∧ Below w.heap.size w wr ∧ Box2 wr w.heap.size 35 (.bool b1) (.slice a1 L1 c1) ∧ Box2 wr (w.heap.size + 1) 35 (.bool false) (.slice none 0 0) ∧ Box2 wr gp 35 (.bool s) (.slice m n c) ∧ RInt wr (.agg #[.bool s, .slice m n c]) (x ^ i) ∧ RInt wr (.agg #[.bool b1, .slice a1 L1 c1]) x) (fun iv _ => E - (intOf iv).toNat)
  case atStart => exact ⟨0, s2, m2, l2, d2, Nat.zero_le _, rfl, HB.out, P0.out, P1.out, PP.out, by rw [Int.pow_zero]; exact IP.out, I1.out⟩
  case round =>
    clear HB P0 P1 PP IP I1
    obtain ⟨i, s, m, n, c, hi, rfl, hB, h0, h1, hp, hip, hix⟩ := hrel
    have HB := hide hB
    have P0 := hide h0
    have P1 := hide h1
    have PP := hide hp
    have IP := hide hip
    have I1 := hide hix
    clear hB h0 h1 hp hip hix
    by_cases hlt : i < E
    · have p0 := PP.out.cell0
      have p1 := PP.out.cell1
      have x0 := P0.out.cell0
      have x1 := P0.out.cell1
      go_wp2_with fail
      refine (rmul2_any _ _ (x ^ i) x _ IP.out I1.out (HLI.out i (by omega)) HLX.out).mono ?_
      rintro r u3 ⟨v6, rfl, n6, hb⟩
      rw [← Int.pow_succ] at n6
      obtain ⟨s6, k6, m6, d6, rfl, q1, q2, q3⟩ := n6
      have n6 : RInt u3 (.agg #[.bool s6, .slice m6 (D.lim k6).length d6]) (x ^ (i + 1)) := ⟨s6, k6, m6, d6, rfl, q1, q2, q3⟩
      clear q1 q2 q3
      generalize (D.lim k6).length = l6 at *
      replace HB := hide (HB.out.trans (hb.mono HB.out.size))
      replace P0 := hide (P0.out.step hb)
      replace P1 := hide (P1.out.step hb)
      replace PP := hide (PP.out.step hb)
      replace I1 := hide (I1.out.below hb)
      have I6 := hide n6
      clear hb n6 p0 p1 x0 x1 IP
      have p0 := PP.out.cell0
      have p1 := PP.out.cell1
      have f0 := PP.out.free 0
      have f1 := PP.out.free 1
      go_wp2
      go_roundw
      case rel => exact ⟨i + 1, s6, m6, l6, d6, by omega, by go_num, below_put HB.out (show w.heap.size ≤ gp by have := LTP.out; omega) (.bool s6) (.slice m6 l6 d6), P0.out.other (C := gp) (by have := LTP.out; omega) (.bool s6) (.slice m6 l6 d6), P1.out.other (C := gp) (by have := LTP.out; omega) (.bool s6) (.slice m6 l6 d6), PP.out.put (.bool s6) (.slice m6 l6 d6), I6.out.keep (PP.out.keeps (by simp) (by simp) (.bool s6) (.slice m6 l6 d6)), I1.out.keep (PP.out.keeps (by simp) (by simp) (.bool s6) (.slice m6 l6 d6))⟩
      case measure => simp [intOf]; omega
    · have e : i = E := by omega
      subst e
      have p0 := PP.out.cell0
      have p1 := PP.out.cell1
      have hc0 := P1.out.cell0
      have hc1 := P1.out.cell1
      have hf0 := P1.out.free 0
      have hf1 := P1.out.free 1
      go_wp2
      refine ret_ref rfl (w.heap.size + 1) _ _ _ _ rfl ((P1.out.set0 _).set1 _) rfl ?_
      exact ⟨_, rfl, IP.out.keep (P1.out.keeps (by simp) (by simp) _ _), below_put HB.out (Nat.le_succ _) _ _⟩
end Go.Proofs.Ytapodkjmhenceaa

namespace Go.Proofs.Ytapodkjmhenceaa
open Go.RowKit

theorem Try.infoRP : (Try.prog.info? 35).map (fun i => (i.zero, i.size, i.bytes)) = some (some (.agg #[.bool false, .slice none 0 0]), 2, 32) := by kernel_rfl
theorem RInt.cellsP {w : World} {v : Value} {z : Int} (h : RInt w v z) : ∃ s m n c, v = .agg #[.bool s, .slice m n c] ∧ RInt w (.agg #[.bool s, .slice m n c]) z := by
  obtain ⟨b, j, a, c, rfl, hx⟩ := h
  exact ⟨b, a, _, c, rfl, b, j, a, c, rfl, hx⟩
theorem below_growP {B : Nat} {w w' w'' : World} {r : Option Nat} (h : Below B w w') (hg : w'.grownBy w'' r) (hB : B ≤ w'.heap.size) (hr : ∀ g, r = some g → B ≤ g) : Below B w w'' := h.grown hg hB hr
theorem powl_snoc (a b : Int) (n k : Nat) : (List.range (k + 1)).map (powf a b n) = (List.range k).map (powf a b n) ++ [powf a b n k] := by rw [List.range_succ, List.map_append]; rfl
theorem small_dlen {x : Int} (h : x.natAbs ≤ 16) : (D.lim x.natAbs).length ≤ 100000000 := SzI.dlen (k := 1) (by unfold SzI BB; omega) (by decide)

set_option maxRecDepth 100000 in
set_option maxHeartbeats 8000000 in
theorem rpowers_any (a b : Int) (n : Nat) (w : World) (h : inB a b = true) (hn : n ≤ 16) :
    Calls Try.prog 22 #[.agg #[.int .i64 a, .int .i64 b], .int .i64 n] w fun e w' => ∃ v, e = .returned v ∧ RInts w' v ((List.range n).map (powf a b n)) ∧ Below w.heap.size w w' := by
  have HIN := hide (in_yes h)
  obtain ⟨i1, hi1, hy0, hy1, hy2⟩ := info_parts Try.infoRP
  have TR := hide (And.intro hi1 (And.intro hy0 (And.intro hy1 hy2)))
  clear hi1 hy0 hy1 hy2
  have HX := hide (Box2.new w 61 (.int .i64 a) (.int .i64 b))
  have HB := hide (below_alloc w (.cells #[.int .i64 a, .int .i64 b] 61))
  go_enter Try.func22, Try.ntmps22
  go_wp2
  go_loopw [5, 6] (fun va iv wr => ∃ k : Nat, k ≤ n ∧ iv = .int .i64 k ∧ Box2 wr w.heap.size 61 (.int .i64 a) (.int .i64 b) ∧ Below w.heap.size w wr ∧ ListR wr (w.heap.size + 1) va ((List.range k).map (powf a b n))) (fun _ iv _ => n - (intOf iv).toNat)
  case atStart => exact ⟨0, Nat.zero_le _, rfl, HX.out, HB.out, ListR.nil _ _⟩
  case round =>
    clear HX HB
    obtain ⟨k, hk, rfl, hx, hb, hL⟩ := hrel
    have HX := hide hx
    have HB := hide hb
    have LR := hide hL
    clear hx hb hL
    by_cases hlt : k < n
    · have TK := hide (powl_snoc a b n k)
      generalize hT : (List.range k).map (powf a b n) = T at *
      have TL : Hid (T.length ≤ 1000000) := hide (by rw [← hT, List.length_map, List.length_range]; omega)
      clear hT
      go_upto_region 5 with fail
      refine wp_calm (fun w' => Below w.heap.size w w' ∧ Box2 w' w.heap.size 61 (.int .i64 a) (.int .i64 b) ∧ ListR w' (w.heap.size + 1) u5 T) (fun j => j != 16 && j != 17) 18 #[false, false, false, false, false, false, false, false, false, false, false, false, false, false, false, false, false, false] (by kernel_rfl) rfl rfl ?_
      have HF := hide (And.intro (HB.out.drew) (And.intro (HX.out.drew) (LR.out.drew)))
      generalize wr.drew = wrd at *
      refine Calm.takeL 18 (i := 0) (v := ?_) (a' := ?_) (l' := #[true, false, false, false, false, false, false, false, false, false, false, false, false, false, false, false, false, false]) (d := some 12) (by kernel_rfl) rfl (by kernel_rfl) (by kernel_rfl) (by kernel_rfl) (by kernel_rfl) (fun _ _ _ h => h) HF.out rfl ?_ rfl rfl ?_ ?_
      rotate_left
      · intro w' hF; clear hF; go_simp; try rfl
      rotate_left
      · simp only [Act.put]; exact rfl
      refine Calm.takeL 18 (i := 1) (v := ?_) (a' := ?_) (l' := #[true, true, false, false, false, false, false, false, false, false, false, false, false, false, false, false, false, false]) (d := some 13) (by kernel_rfl) rfl (by kernel_rfl) (by kernel_rfl) (by kernel_rfl) (by kernel_rfl) (fun _ _ _ h => h) HF.out rfl ?_ rfl rfl ?_ ?_
      rotate_left
      · intro w' hF; clear hF; go_simp; try rfl
      rotate_left
      · simp only [Act.put]; exact rfl
      refine Calm.takeL 18 (i := 2) (v := ?_) (a' := ?_) (l' := #[true, true, true, false, false, false, false, false, false, false, false, false, false, false, false, false, false, false]) (d := some 14) (by kernel_rfl) rfl (by kernel_rfl) (by kernel_rfl) (by kernel_rfl) (by kernel_rfl) (fun _ _ _ h => h) HF.out rfl ?_ rfl rfl ?_ ?_
      rotate_left
      · intro w' hF; have f10 := hF.2.1.cell0; have f11 := hF.2.1.cell1; clear hF; go_simp; try rfl
      rotate_left
      · simp only [Act.put]; exact rfl
      refine Calm.takeL 18 (i := 4) (v := ?_) (a' := ?_) (l' := #[true, true, true, false, true, false, false, false, false, false, false, false, false, false, false, false, false, false]) (d := some 16) (by kernel_rfl) rfl (by kernel_rfl) (by kernel_rfl) (by kernel_rfl) (by kernel_rfl) (fun _ _ _ h => h) HF.out rfl ?_ rfl rfl ?_ ?_
      rotate_left
      · intro w' hF; clear hF; go_simp; try rfl
      rotate_left
      · simp only [Act.put]; exact rfl
      refine Calm.takeL 18 (i := 6) (v := ?_) (a' := ?_) (l' := #[true, true, true, false, true, false, true, false, false, false, false, false, false, false, false, false, false, false]) (d := some 18) (by kernel_rfl) rfl (by kernel_rfl) (by kernel_rfl) (by kernel_rfl) (by kernel_rfl) (fun _ _ _ h => h) HF.out rfl ?_ rfl rfl ?_ ?_
      rotate_left
      · intro w' hF; clear hF; go_simp; try rfl
      rotate_left
      · simp only [Act.put]; exact rfl
      refine Calm.takeL 18 (i := 7) (v := ?_) (a' := ?_) (l' := #[true, true, true, false, true, false, true, true, false, false, false, false, false, false, false, false, false, false]) (d := some 19) (by kernel_rfl) rfl (by kernel_rfl) (by kernel_rfl) (by kernel_rfl) (by kernel_rfl) (fun _ _ _ h => h) HF.out rfl ?_ rfl rfl ?_ ?_
      rotate_left
      · intro w' hF; have f10 := hF.2.1.cell0; have f11 := hF.2.1.cell1; clear hF; go_simp; try rfl
      rotate_left
      · simp only [Act.put]; exact rfl
      refine Calm.takeL 18 (i := 9) (v := ?_) (a' := ?_) (l' := #[true, true, true, false, true, false, true, true, false, true, false, false, false, false, false, false, false, false]) (d := some 21) (by kernel_rfl) rfl (by kernel_rfl) (by kernel_rfl) (by kernel_rfl) (by kernel_rfl) (fun _ _ _ h => h) HF.out rfl ?_ rfl rfl ?_ ?_
      rotate_left
      · intro w' hF; clear hF; go_simp; try rfl
      rotate_left
      · simp only [Act.put]; exact rfl
      refine Calm.takeL 18 (i := 10) (v := ?_) (a' := ?_) (l' := #[true, true, true, false, true, false, true, true, false, true, true, false, false, false, false, false, false, false]) (d := some 22) (by kernel_rfl) rfl (by kernel_rfl) (by kernel_rfl) (by kernel_rfl) (by kernel_rfl) (fun _ _ _ h => h) HF.out rfl ?_ rfl rfl ?_ ?_
      rotate_left
      · intro w' hF; clear hF; go_simp; try rfl
      rotate_left
      · simp only [Act.put]; exact rfl
      refine Calm.takeL 18 (i := 11) (v := ?_) (a' := ?_) (l' := #[true, true, true, false, true, false, true, true, false, true, true, true, false, false, false, false, false, false]) (d := some 23) (by kernel_rfl) rfl (by kernel_rfl) (by kernel_rfl) (by kernel_rfl) (by kernel_rfl) (fun _ _ _ h => h) HF.out rfl ?_ rfl rfl ?_ ?_
      rotate_left
      · intro w' hF; clear hF; go_simp; try rfl
      rotate_left
      · simp only [Act.put]; exact rfl
      refine Calm.takeL 18 (i := 12) (v := ?_) (a' := ?_) (l' := #[true, true, true, false, true, false, true, true, false, true, true, true, true, false, false, false, false, false]) (d := some 24) (by kernel_rfl) rfl (by kernel_rfl) (by kernel_rfl) (by kernel_rfl) (by kernel_rfl) (fun _ _ _ h => h) HF.out rfl ?_ rfl rfl ?_ ?_
      rotate_left
      · intro w' hF; clear hF; go_simp; try rfl
      rotate_left
      · simp only [Act.put]; exact rfl
      refine Calm.one (i := 3) (l' := #[true, true, true, true, true, false, true, true, false, true, true, true, true, false, false, false, false, false]) (by kernel_rfl) rfl rfl rfl fun K hK => ?_
      go_simp
      refine (rof_any a _ (by have q := HIN.out; omega) (by have q := HIN.out; omega)).mono ?_
      rintro e y1 ⟨v, rfl, i, hb⟩
      have HF' := hide (And.intro (HF.out.1.trans ((hb).mono HF.out.1.size)) (And.intro (HF.out.2.1.step (hb)) (HF.out.2.2.below (hb))))
      have T1 := hide (i)
      refine hK _ _ (fun _ => HF'.out) ?_
      clear hK K HF hb i
      have HF := hide HF'.out
      clear HF'
      refine Calm.one (i := 5) (l' := #[true, true, true, true, true, true, true, true, false, true, true, true, true, false, false, false, false, false]) (by kernel_rfl) rfl rfl rfl fun K hK => ?_
      go_simp
      refine (rpow_any _ a k _ T1.out (by omega) (fun i hi => (SzI.dlen (pw_sz (by have q := HIN.out; omega) (by omega)) (by decide))) (small_dlen (by have q := HIN.out; omega))).mono ?_
      rintro e y2 ⟨v, rfl, i, hb⟩
      clear T1
      have HF' := hide (And.intro (HF.out.1.trans ((hb).mono HF.out.1.size)) (And.intro (HF.out.2.1.step (hb)) (HF.out.2.2.below (hb))))
      have T2 := hide (i)
      refine hK _ _ (fun _ => HF'.out) ?_
      clear hK K HF hb i
      have HF := hide HF'.out
      clear HF'
      refine Calm.one (i := 8) (l' := #[true, true, true, true, true, true, true, true, true, true, true, true, true, false, false, false, false, false]) (by kernel_rfl) rfl rfl rfl fun K hK => ?_
      go_simp
      refine (rof_any b _ (by have q := HIN.out; omega) (by have q := HIN.out; omega)).mono ?_
      rintro e y3 ⟨v, rfl, i, hb⟩
      replace T2 := hide (T2.out.below (hb))
      have HF' := hide (And.intro (HF.out.1.trans ((hb).mono HF.out.1.size)) (And.intro (HF.out.2.1.step (hb)) (HF.out.2.2.below (hb))))
      have T3 := hide (i)
      refine hK _ _ (fun _ => HF'.out) ?_
      clear hK K HF hb i
      have HF := hide HF'.out
      clear HF'
      refine Calm.one (i := 13) (l' := #[true, true, true, true, true, true, true, true, true, true, true, true, true, true, false, false, false, false]) (by kernel_rfl) rfl rfl rfl fun K hK => ?_
      go_simp
      try rw [show IntKind.i64.wrap (IntKind.i64.wrap ((n : Int) - 1) - (k : Int)) = ((n - 1 - k : Nat) : Int) from by rw [IntKind.wrap_i64, IntKind.wrap_i64]; omega]
      refine (rpow_any _ b (n - 1 - k) _ T3.out (by omega) (fun i hi => (SzI.dlen (pw_sz (by have q := HIN.out; omega) (by omega)) (by decide))) (small_dlen (by have q := HIN.out; omega))).mono ?_
      rintro e y4 ⟨v, rfl, i, hb⟩
      replace T2 := hide (T2.out.below (hb))
      clear T3
      have HF' := hide (And.intro (HF.out.1.trans ((hb).mono HF.out.1.size)) (And.intro (HF.out.2.1.step (hb)) (HF.out.2.2.below (hb))))
      have T4 := hide (i)
      refine hK _ _ (fun _ => HF'.out) ?_
      clear hK K HF hb i
      have HF := hide HF'.out
      clear HF'
      refine Calm.one (i := 14) (l' := #[true, true, true, true, true, true, true, true, true, true, true, true, true, true, true, false, false, false]) (by kernel_rfl) rfl rfl rfl fun K hK => ?_
      go_simp
      refine (rmul2_any _ _ (a ^ k) (b ^ (n - 1 - k)) _ T2.out T4.out (SzI.dlen (pw_sz (by have q := HIN.out; omega) (by omega)) (by decide)) (SzI.dlen (pw_sz (by have q := HIN.out; omega) (by omega)) (by decide))).mono ?_
      rintro e y5 ⟨v, rfl, i, hb⟩
      obtain ⟨s5, m5, l5, c5, rfl, i⟩ := i.cellsP
      clear T2
      clear T4
      have HF' := hide (And.intro (HF.out.1.trans ((hb).mono HF.out.1.size)) (And.intro (HF.out.2.1.step (hb)) (HF.out.2.2.below (hb))))
      have TV := hide (i)
      refine hK _ _ (fun _ => HF'.out) ?_
      clear hK K HF hb i
      have HF := hide HF'.out
      clear HF'
      refine Calm.one (i := 15) (l' := #[true, true, true, true, true, true, true, true, true, true, true, true, true, true, true, true, false, false]) (by kernel_rfl) rfl rfl rfl fun K hK => ?_
      go_simp
      have al := below_alloc y5 (.cells #[.bool s5, .slice m5 l5 c5] 35)
      have HF' := hide (And.intro (HF.out.1.trans ((al).mono HF.out.1.size)) (And.intro (HF.out.2.1.step (al)) (HF.out.2.2.below (al))))
      have BXe := hide (Box2.new y5 35 (.bool s5) (.slice m5 l5 c5))
      replace TV := hide (TV.out.below (al))
      have LT1e := hide (HF.out.2.1.lt)
      have GEe := hide (HF.out.1.size)
      refine hK _ _ (fun _ => HF'.out) ?_
      clear hK K HF al
      have HF := hide HF'.out
      clear HF'
      generalize y5.alloc (.cells #[.bool s5, .slice m5 l5 c5] 35) = wze at *
      generalize y5.heap.size = ge at *
      refine Calm.one (i := 16) (l' := #[true, true, true, true, true, true, true, true, true, true, true, true, true, true, true, true, true, false]) (by kernel_rfl) rfl rfl rfl fun K hK => ?_
      obtain ⟨zx, ho, hx⟩ := HF.out.2.2
      have he0 := BXe.out.cell0
      have he1 := BXe.out.cell1
      refine wp_app2 _ (.tmp 12) (.tmp 27) 43 rfl (w.heap.size + 1) 35 _ Try.underlying43 TR.out.1 TR.out.2.1 TR.out.2.2.1 TR.out.2.2.2 u5 T.length zx rfl ho ge 1 s5 m5 l5 c5 rfl he0 he1 (by have := TL.out; omega) (by have h1 := LT1e.out; have h2 := BXe.out.lt; omega) ?_
      intro vB xB ho' hg hob
      clear he0 he1
      refine hK _ _ (fun h => absurd h (by decide)) ?_
      clear hK K
      refine Calm.one (i := 17) (l' := #[true, true, true, true, true, true, true, true, true, true, true, true, true, true, true, true, true, true]) (by kernel_rfl) rfl rfl rfl fun K hK => ?_
      go_simp
      refine hK _ _ (fun h => absurd h (by decide)) ?_
      clear hK K
      refine Calm.done (by kernel_rfl) ?_
      have LR2 := hide (ListR.app ho hx TV.out ho' hg)
      have HB2 := hide (below_growP HF.out.1 hg HF.out.1.size (fun g e => by have := (HF.out.2.2.lt e).1; omega))
      have HX2 : Hid (Box2 xB w.heap.size 61 (.int .i64 a) (.int .i64 b)) := hide (show xB.heap[w.heap.size]? = _ from (hg.block w.heap.size HF.out.2.1.lt (fun e => by have := (HF.out.2.2.lt e.symm).1; omega)).trans HF.out.2.1)
      clear HF ho hx ho' hg hob TV BXe
      go_wp2
      go_roundw
      case rel => exact ⟨k + 1, by omega, by go_num, HX2.out, HB2.out, by rw [TK.out]; exact LR2.out⟩
      case measure => simp [intOf]; omega
    · have e : k = n := by omega
      subst e
      go_wp2
      go_ret
      exact ⟨_, rfl, LR.out.rints, HB.out⟩

theorem sg_dec6 (z : Int) : sg (decide (z < 0)) (val (lim z.natAbs)) = z := by
  rw [val_lim]
  by_cases h : z < 0
  · rw [decide_eq_true h, sg_true]; omega
  · rw [decide_eq_false h, sg_false]; omega
theorem cmpZ_self6 (x : Int) : cmpZ x x = 0 := by unfold cmpZ; rw [if_neg (by omega), if_pos rfl]
set_option maxRecDepth 100000 in
set_option maxHeartbeats 2000000 in
theorem rsame6_yes (v1 v2 : Value) (x : Int) (w : World) (h1 : RInt w v1 x) (h2 : RInt w v2 x) :
    Calls Try.prog 73 #[v1, v2] w fun e w' => e = .returned (.bool true) ∧ Below w.heap.size w w' := by
  obtain ⟨s1, m1, n1, c1, rfl, i1⟩ : ∃ s9 m9 l9 c9, v1 = .agg #[.bool s9, .slice m9 l9 c9] ∧ RInt w (.agg #[.bool s9, .slice m9 l9 c9]) x := by obtain ⟨b, j, a, c, rfl, hx⟩ := h1; exact ⟨b, a, _, c, rfl, b, j, a, c, rfl, hx⟩
  obtain ⟨s2, m2, n2, c2, rfl, i2⟩ : ∃ s9 m9 l9 c9, v2 = .agg #[.bool s9, .slice m9 l9 c9] ∧ RInt w (.agg #[.bool s9, .slice m9 l9 c9]) x := by obtain ⟨b, j, a, c, rfl, hx⟩ := h2; exact ⟨b, a, _, c, rfl, b, j, a, c, rfl, hx⟩
  have HE := hide (nboxes2 35 w (.bool s1) (.slice m1 n1 c1) (.bool s2) (.slice m2 n2 c2))
  have I1 := hide (i1.below HE.out.2.2)
  have I2 := hide (i2.below HE.out.2.2)
  have HB := hide HE.out.2.2
  clear h1 h2 i1 i2 HE
  go_enter Try.func73, Try.ntmps73
  go_wp2_with fail
  refine (rcmp_any _ _ x x _ I1.out I2.out).mono ?_
  rintro e w1 ⟨rfl, hb⟩
  rw [cmpZ_self6]
  replace HB := hide (HB.out.trans (hb.mono HB.out.size))
  clear hb I1 I2
  go_wp2
  go_ret
  exact ⟨rfl, HB.out⟩

end Go.Proofs.Ytapodkjmhenceaa
