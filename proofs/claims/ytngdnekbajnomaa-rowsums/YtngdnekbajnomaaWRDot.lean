/- swageref04's Add, Sub, Dot. -/
import Derived.Test.YtngdnekbajnomaaR2Add
import Derived.Test.YtngdnekbajnomaaDivOwn
import Derived.Test.YtngdnekbajnomaaWMod
import Derived.Test.YtngdnekbajnomaaR2Num
namespace Go.Proofs.Ytngdnekbajnomaa
open Go.RowKit

theorem dset_val (out : List Nat) (p d : Nat) (h : p < out.length) : D.val (out.set p d) + 65536 ^ p * lm out p = D.val out + 65536 ^ p * d := by
  induction out generalizing p with
  | nil => simp at h
  | cons x out ih =>
    cases p with
    | zero => simp [D.val, lm]; omega
    | succ p =>
      have := ih p (by simpa using h)
      have e : lm (x :: out) (p + 1) = lm out p := by simp [lm]
      rw [e, List.set_cons_succ]
      simp only [D.val]
      show x + 65536 * D.val (out.set p d) + 65536 ^ (p + 1) * lm out p = x + 65536 * D.val out + 65536 ^ (p + 1) * d
      rw [Nat.pow_succ, Nat.mul_comm (65536 ^ p) 65536, Nat.mul_assoc, Nat.mul_assoc, Nat.add_assoc, Nat.add_assoc, ← Nat.mul_add, ← Nat.mul_add, this]

/-- a product's state: the rows ahead of i, of the row i the digits ahead of j -/
structure ProdAt (xs ys : List Nat) (i j c : Nat) (out : List Nat) : Prop where
  len : out.length = xs.length + ys.length + 1
  ok : D.Ok out
  c1 : c < 65536
  sum : D.val out + 65536 ^ (i + j) * c = D.val (xs.take i) * D.val ys + 65536 ^ i * lm xs i * D.val (ys.take j)
theorem ProdAt.start (xs ys : List Nat) : ProdAt xs ys 0 0 0 (List.replicate (xs.length + ys.length + 1) 0) := by
  refine ⟨by simp, fun x hx => ?_, by decide, ?_⟩
  · rw [List.eq_of_mem_replicate hx]; decide
  · rw [show D.val (List.replicate (xs.length + ys.length + 1) 0) = 0 from D.val_replicate _]; simp [D.val]
theorem ProdAt.step {xs ys : List Nat} {i j c : Nat} {out : List Nat} (h : ProdAt xs ys i j c out) (hx : D.Ok xs) (hy : D.Ok ys) (hp : i + j < out.length) :
    ProdAt xs ys i (j + 1) ((c + lm out (i + j) + lm xs i * lm ys j) / 65536) (out.set (i + j) ((c + lm out (i + j) + lm xs i * lm ys j) % 65536)) := by
  have h1 := dlm_lt hx i
  have h2 := dlm_lt hy j
  have h3 := dlm_lt h.ok (i + j)
  have h4 := h.c1
  have h5 : lm xs i * lm ys j ≤ 65535 * 65535 := Nat.mul_le_mul (by omega) (by omega)
  refine ⟨by rw [List.length_set]; exact h.len, h.ok.set _ _ (Nat.mod_lt _ (by decide)), by omega, ?_⟩
  have e := dset_val out (i + j) ((c + lm out (i + j) + lm xs i * lm ys j) % 65536) hp
  have em := Nat.mod_add_div (c + lm out (i + j) + lm xs i * lm ys j) 65536
  rw [dtake_succ, show i + (j + 1) = i + j + 1 from by omega, Nat.pow_succ]
  have hs := h.sum
  have e1 : 65536 ^ (i + j) * ((c + lm out (i + j) + lm xs i * lm ys j) % 65536) + 65536 ^ (i + j) * 65536 * ((c + lm out (i + j) + lm xs i * lm ys j) / 65536) = 65536 ^ (i + j) * c + 65536 ^ (i + j) * lm out (i + j) + 65536 ^ (i + j) * (lm xs i * lm ys j) := by
    rw [Nat.mul_assoc, ← Nat.mul_add, em, Nat.mul_add, Nat.mul_add]
  have e2 : 65536 ^ i * lm xs i * (D.val (ys.take j) + 65536 ^ j * lm ys j) = 65536 ^ i * lm xs i * D.val (ys.take j) + 65536 ^ (i + j) * (lm xs i * lm ys j) := by
    rw [Nat.mul_add, Nat.pow_add]
    congr 1
    rw [Nat.mul_assoc, Nat.mul_assoc]
    congr 1
    rw [← Nat.mul_assoc, ← Nat.mul_assoc, Nat.mul_comm (lm xs i)]
  rw [e2]
  omega
theorem ProdAt.last {xs ys : List Nat} {i j : Nat} {out : List Nat} (h : ProdAt xs ys i j 0 out) (hj : ys.length ≤ j) : ProdAt xs ys (i + 1) 0 0 out := by
  refine ⟨h.len, h.ok, by decide, ?_⟩
  have := h.sum
  rw [List.take_of_length_le hj, Nat.mul_zero, Nat.add_zero] at this
  rw [this, dtake_succ, List.take_zero]
  simp only [D.val, Nat.mul_zero, Nat.add_zero]
  rw [Nat.add_mul]
theorem ProdAt.whole {xs ys : List Nat} {i : Nat} {out : List Nat} (h : ProdAt xs ys i 0 0 out) (hi : xs.length ≤ i) : D.val out = D.val xs * D.val ys := by
  have := h.sum
  rw [List.take_of_length_le hi, List.take_zero] at this
  simpa [D.val] using this
theorem dtake_le (ys : List Nat) (j : Nat) : D.val (ys.take j) ≤ D.val ys := by
  have := D.val_append (ys.take j) (ys.drop j)
  rw [List.take_append_drop] at this
  omega
theorem ProdAt.room {xs ys : List Nat} {i j c : Nat} {out : List Nat} (h : ProdAt xs ys i j c out) (hx : D.Ok xs) (hy : D.Ok ys) (hc : 0 < c) : j ≤ ys.length := by
  have h1 : D.val (xs.take (i + 1)) < 65536 ^ (i + 1) := Nat.lt_of_lt_of_le (D.val_lt (hx.take (i + 1))) (Nat.pow_le_pow_right (by decide) (by rw [List.length_take]; omega))
  have h2 : D.val ys < 65536 ^ ys.length := D.val_lt hy
  have h3 : D.val (xs.take (i + 1)) * D.val ys < 65536 ^ (i + 1) * 65536 ^ ys.length := Nat.mul_lt_mul_of_lt_of_le h1 (Nat.le_of_lt h2) (Nat.pow_pos (by decide))
  rw [dtake_succ, Nat.add_mul, ← Nat.pow_add] at h3
  have h4 : 65536 ^ i * lm xs i * D.val (ys.take j) ≤ 65536 ^ i * lm xs i * D.val ys := Nat.mul_le_mul_left _ (dtake_le ys j)
  have h5 : 65536 ^ (i + j) ≤ 65536 ^ (i + j) * c := Nat.le_mul_of_pos_right _ hc
  have hs := h.sum
  have h6 : 65536 ^ (i + j) < 65536 ^ (i + 1 + ys.length) := by omega
  have := (Nat.pow_lt_pow_iff_right (by decide)).1 h6
  omega

theorem mul2_next {W0 wq : World} {T n i j c : Nat} {X Y out : List Nat} {s : Int} (hat : ProdAt X Y i j c out) (hx : D.Ok X) (hy : D.Ok Y) (hp : i + j < out.length) (hrow : RowC wq T T n n out) (hbel : Below T W0 wq) (hs : s = ((c + lm out (i + j) + lm X i * lm Y j : Nat) : Int)) :
    ProdAt X Y i (j + 1) ((c + lm out (i + j) + lm X i * lm Y j) / 65536) (out.set (i + j) ((c + lm out (i + j) + lm X i * lm Y j) % 65536)) ∧ Value.int .u64 (s / 65536) = .int .u64 ((c + lm out (i + j) + lm X i * lm Y j) / 65536 : Nat) ∧
      RowC (wq.setCell ⟨T, i + j, none⟩ (.int .u32 (s % 65536))) T T n n (out.set (i + j) ((c + lm out (i + j) + lm X i * lm Y j) % 65536)) ∧ Below T W0 (wq.setCell ⟨T, i + j, none⟩ (.int .u32 (s % 65536))) := by
  have e : s % 65536 = (((c + lm out (i + j) + lm X i * lm Y j) % 65536 : Nat) : Int) := by rw [hs, Int.natCast_emod]; rfl
  have e' : s / 65536 = (((c + lm out (i + j) + lm X i * lm Y j) / 65536 : Nat) : Int) := by rw [hs, Int.natCast_ediv]; rfl
  refine ⟨hat.step hx hy hp, by rw [e'], ?_, hbel.setCell (p := ⟨T, i + j, none⟩) (Nat.le_refl _) _⟩
  rw [e]; exact hrow.set _ _

set_option maxRecDepth 100000 in
set_option maxHeartbeats 4000000 in
theorem rmul2_any (v1 v2 : Value) (x y : Int) (w : World) (h1 : RInt w v1 x) (h2 : RInt w v2 y) (l1 : (D.lim x.natAbs).length ≤ 100000000) (l2 : (D.lim y.natAbs).length ≤ 100000000) :
    Calls Try.prog 42 #[v1, v2] w fun e w' => ∃ v', e = .returned v' ∧ RInt w' v' (x * y) ∧ Below w.heap.size w w' := by
  obtain ⟨i0, hi, hz0, hz1, hz2⟩ := info_parts Try.info63
  obtain ⟨b1, n1, a1, c1, rfl, hn1, rfl, h01⟩ := h1
  obtain ⟨b2, n2, a2, c2, rfl, hn2, rfl, h02⟩ := h2
  have HE := hide (nboxes3 39 w (.bool b1) (.slice a1 (D.lim n1).length c1) (.bool b2) (.slice a2 (D.lim n2).length c2) (.bool false) (.slice none 0 0))
  have HN1 := hide (hn1.below HE.out.2.2.2)
  have HN2 := hide (hn2.below HE.out.2.2.2)
  rw [sg_abs] at l1 l2
  have HV1 := hide (D.val_lim n1)
  have HV2 := hide (D.val_lim n2)
  have HX := hide (D.ok_lim n1)
  have HY := hide (D.ok_lim n2)
  clear hn1 h01 hn2 h02
  obtain ⟨X, hX⟩ : ∃ X, X = D.lim n1 := ⟨_, rfl⟩
  obtain ⟨Y, hY⟩ : ∃ Y, Y = D.lim n2 := ⟨_, rfl⟩
  rw [← hX] at HE HN1 HN2 HV1 HX l1
  rw [← hY] at HE HN1 HN2 HV2 HY l2
  rw [← hX, ← hY]
  clear hX hY
  obtain ⟨_, a', c', he1, _, hm1, hcc1⟩ := HN1.out
  obtain ⟨_, a'', c'', he2, _, hm2, hcc2⟩ := HN2.out
  simp only [Value.slice.injEq] at he1 he2
  obtain ⟨rfl, _, rfl⟩ := he1
  obtain ⟨rfl, _, rfl⟩ := he2
  have HC1 := hide hcc1
  have HC2 := hide hcc2
  unfold maxLen at hm1 hm2
  clear hcc1 hcc2
  go_enter Try.func42, Try.ntmps42
  have HTS : Hid (w.heap.size + 1 + 1 + 1 = (((w.alloc (.cells #[.bool b1, .slice a1 X.length c1] 39)).alloc (.cells #[.bool b2, .slice a2 Y.length c2] 39)).alloc (.cells #[.bool false, .slice none 0 0] 39)).heap.size) := hide (by simp)
  go_wp2_with (at_make; refine wpList_make_full _ rfl _ _ 23 rfl (w.heap.size + 1 + 1 + 1) 63 i0 (.int .u32 0) 1 Try.underlying23 hi hz0 hz1 _ _ _ _ (X.length + Y.length + 1) rfl rfl ?_ ?_ ?_ ?_ ?_ ?_)
  · omega
  · omega
  · rw [hz2]; omega
  · unfold maxLen; omega
  · exact Nat.le_of_eq HTS.out
  intro w1 hown hgrow
  have HB1 : Hid (Below (w.heap.size + 1 + 1 + 1) (((w.alloc (.cells #[.bool b1, .slice a1 X.length c1] 39)).alloc (.cells #[.bool b2, .slice a2 Y.length c2] 39)).alloc (.cells #[.bool false, .slice none 0 0] 39)) w1) := hide ((Below.refl _ _).grown hgrow (Nat.le_of_eq HTS.out) (fun k hk => by simp at hk))
  have HR1 : Hid (RowC w1 (w.heap.size + 1 + 1 + 1) (w.heap.size + 1 + 1 + 1) (X.length + Y.length + 1) (X.length + Y.length + 1) (List.replicate (X.length + Y.length + 1) 0)) := hide (by rw [made_fil] at hown; unfold RowC; simpa [fil] using hown)
  clear hown hgrow
  obtain ⟨W0, hW0⟩ : ∃ W0, W0 = ((w.alloc (.cells #[.bool b1, .slice a1 X.length c1] 39)).alloc (.cells #[.bool b2, .slice a2 Y.length c2] 39)).alloc (.cells #[.bool false, .slice none 0 0] 39) := ⟨_, rfl⟩
  rw [← hW0] at HE HN1 HN2 HC1 HC2 HTS HB1
  clear hW0
  obtain ⟨T, hT⟩ : ∃ T, T = w.heap.size + 1 + 1 + 1 := ⟨_, rfl⟩
  have HTV := hide hT
  rw [← hT] at HTS HB1 HR1 ⊢
  go_wp2
  clear hT
  go_loopw [6] (fun iv wr => ∃ (i : Nat) (out : List Nat), i ≤ X.length ∧ iv = .int .i64 i ∧ ProdAt X Y i 0 0 out ∧ RowC wr T T (X.length + Y.length + 1) (X.length + Y.length + 1) out ∧ Below T W0 wr) (fun iv _ => X.length - (intOf iv).toNat)
  case atStart => exact ⟨0, _, Nat.zero_le _, rfl, ProdAt.start X Y, HR1.out, HB1.out⟩
  case round =>
    clear HR1 HB1
    obtain ⟨i, out, hiX, rfl, hat, hrow, hbel⟩ := hrel
    have HAT := hide hat
    have HRW := hide hrow
    have HBE := hide hbel
    have HXB := hide (HE.out.1.below hbel (by have := HTV.out; omega))
    have HYB := hide (HE.out.2.1.below hbel (by have := HTV.out; omega))
    have hxb := HXB.out.cell1
    clear hat hrow hbel
    by_cases hlt : i < X.length
    · go_wp2
      go_loopw [7, 8] (fun cv jv wx => ∃ (j c : Nat) (out : List Nat), j ≤ Y.length + 1 ∧ jv = .int .i64 j ∧ cv = .int .u64 c ∧ c < 65536 ∧ Hid (j ≤ Y.length ∨ c = 0) ∧ ProdAt X Y i j c out ∧ RowC wx T T (X.length + Y.length + 1) (X.length + Y.length + 1) out ∧ Below T W0 wx) (fun _ jv _ => Y.length + 1 - (intOf jv).toNat)
      case atStart => exact ⟨0, 0, out, by omega, rfl, rfl, by omega, .inr rfl, HAT.out, HRW.out, HBE.out⟩
      case round =>
        clear HXB HYB hxb HAT HRW HBE
        obtain ⟨j, c, out, hj, rfl, rfl, hc, HJ, hat, hrow, hbel⟩ := hrel
        have HAT := hide hat
        have HRW := hide hrow
        have HBE := hide hbel
        have HXB := hide (HE.out.1.below hbel (by have := HTV.out; omega))
        have HYB := hide (HE.out.2.1.below hbel (by have := HTV.out; omega))
        have hxb := HXB.out.cell1
        have hyb := HYB.out.cell1
        have HRM := hide (fun h => hat.room HX.out HY.out h)
        have HLN := hide hat.len
        by_cases hgo : j < Y.length ∨ 0 < c
        · have hjY : j ≤ Y.length := by
            rcases hgo with h | h
            · omega
            · exact HRM.out h
          have hfr := hrow.free (i + j)
          have hcl := hrow.cell hat.len (i + j) (by omega)
          have ho1 := dlm_lt hat.ok (i + j)
          have hx1 := dlm_lt HX.out i
          have hy1 := dlm_lt HY.out j
          clear hat hrow hbel
          obtain ⟨B1, o1, rfl, hxc⟩ := HC1.out (ne_nil hlt)
          have hxk : wr.cell? ⟨B1, o1 + i, none⟩ = some (.int .u32 (lm X i : Nat)) := by
            have h0 := hxc i hlt
            have hb0 := World.block_lt_of_cell? W0 _ h0
            rw [HBE.out.cell (by rw [HTS.out]; exact hb0)]; exact h0
          clear hxc
          by_cases hlj : j < Y.length
          · obtain ⟨B2, o2, rfl, hyc⟩ := HC2.out (ne_nil hlj)
            have hyk : wr.cell? ⟨B2, o2 + j, none⟩ = some (.int .u32 (lm Y j : Nat)) := by
              have h0 := hyc j hlj
              have hb0 := World.block_lt_of_cell? W0 _ h0
              rw [HBE.out.cell (by rw [HTS.out]; exact hb0)]; exact h0
            clear hyc
            have hp1 : (lm X i : Int) * (lm Y j : Int) ≤ 4294836225 := by
              have : lm X i * lm Y j ≤ 65535 * 65535 := Nat.mul_le_mul (by omega) (by omega)
              have e : ((lm X i * lm Y j : Nat) : Int) = (lm X i : Int) * (lm Y j : Int) := Int.natCast_mul _ _
              omega
            have hp0 : 0 ≤ (lm X i : Int) * (lm Y j : Int) := Int.mul_nonneg (by omega) (by omega)
            have hltI : (i : Int) < (X.length : Int) := by omega
            have hljI : (j : Int) < (Y.length : Int) := by omega
            go_wp2
            go_quiet (fail)
            go_wp2
            obtain ⟨k1, k2, k3, k4⟩ := mul2_next (wq := wr.drewN nq) (s := (c : Int) + (lm out (i + j) : Int) + (lm X i : Int) * (lm Y j : Int)) HAT.out HX.out HY.out (by rw [HLN.out]; omega) HRW.out (below_drewN HBE.out _) (by rw [Int.natCast_add, Int.natCast_add, Int.natCast_mul])
            have K1 := hide k1
            have K2 := hide k2
            have K3 := hide k3
            have K4 := hide k4
            clear k1 k2 k3 k4
            go_roundw
            case rel => exact ⟨j + 1, _, _, by omega, by go_num, K2.out, K1.out.c1, .inl (by omega), K1.out, K3.out, K4.out⟩
            case measure => simp [intOf]; omega
          · have hcp : 0 < c := by rcases hgo with h | h; exact absurd h hlj; exact h
            have HZY := hide (lm_over Y j (by omega))
            go_wp2
            obtain ⟨k1, k2, k3, k4⟩ := mul2_next (wq := wr) (s := (c : Int) + (lm out (i + j) : Int)) HAT.out HX.out HY.out (by rw [HLN.out]; omega) HRW.out HBE.out (by rw [HZY.out, Nat.mul_zero, Nat.add_zero, Int.natCast_add])
            have K1 := hide k1
            have K2 := hide k2
            have K3 := hide k3
            have K4 := hide k4
            have HC0 : Hid ((c + lm out (i + j) + lm X i * lm Y j) / 65536 = 0) := hide (by
              have h1 := K1.out
              rcases Nat.eq_zero_or_pos ((c + lm out (i + j) + lm X i * lm Y j) / 65536) with h | h
              · exact h
              · have := h1.room HX.out HY.out h; omega)
            clear k1 k2 k3 k4
            go_roundw
            case rel => exact ⟨j + 1, _, _, by omega, by go_num, K2.out, K1.out.c1, .inr HC0.out, K1.out, K3.out, K4.out⟩
            case measure => simp [intOf]; omega
        · have hc0 : c = 0 := by omega
          have hjY : Y.length ≤ j := by omega
          subst hc0
          clear hat hrow hbel
          go_wp2
          go_roundw
          case rel => exact ⟨i + 1, out, by omega, by go_num, HAT.out.last hjY, HRW.out, HBE.out⟩
          case measure => simp [intOf]; omega
    · have e : i = X.length := by omega
      subst e
      have hx0 := HXB.out.cell0
      have hy0 := HYB.out.cell0
      have HOW := hide (HRW.out.nums HAT.out.len (dok HAT.out.ok))
      have HWV := hide (HAT.out.whole (Nat.le_refl _))
      have HRB := hide (HE.out.2.2.1.below HBE.out (by have := HTV.out; omega))
      have HBW := hide (HE.out.2.2.2.trans (HBE.out.mono (by have := HTV.out; omega)))
      go_wp2_with fail
      refine (rnorm2_any (b1 != b2) _ out _ HOW.out HAT.out.ok).mono ?_
      rintro e w2 ⟨v2', rfl, ⟨b', n', a'', c'', rfl, hn', he, h0⟩, hb2⟩
      have HX2 := hide (HRB.out.step hb2)
      have HB2 := hide (HBW.out.trans (hb2.mono HBW.out.size))
      clear hb2 hx0 hy0 hxb
      have hc0 := HX2.out.cell0
      have hc1 := HX2.out.cell1
      have hf0 := HX2.out.free 0
      have hf1 := HX2.out.free 1
      go_wp2
      refine ret_ref rfl (w.heap.size + 1 + 1) _ _ _ _ rfl ((HX2.out.set0 _).set1 _) rfl ?_
      refine rhanded HX2.out (by simp) (by simp) (by omega) HB2.out hn' ?_ h0
      rw [← he, HWV.out, HV1.out, HV2.out, sg_mul]
end Go.Proofs.Ytngdnekbajnomaa

namespace Go.Proofs.Ytngdnekbajnomaa
open Go.RowKit

structure RVar (w : World) (g : Nat) (s : Bool) (m : Option Addr) (n c : Nat) (z : Int) : Prop where
  box : Box2 w g 39 (.bool s) (.slice m n c)
  int : RInt w (.agg #[.bool s, .slice m n c]) z
theorem RVar.step {w w' : World} {g : Nat} {s : Bool} {m : Option Addr} {n c : Nat} {z : Int} (h : RVar w g s m n c z) (hb : Below w.heap.size w w') : RVar w' g s m n c z := ⟨h.box.step hb, h.int.below hb⟩
theorem RVar.drew {w : World} {g : Nat} {s : Bool} {m : Option Addr} {n c : Nat} {z : Int} (h : RVar w g s m n c z) : RVar w.drew g s m n c z := ⟨h.box.drew, h.int.drew⟩
theorem RInt.var {w : World} {s : Bool} {m : Option Addr} {n c : Nat} {z : Int} (h : RInt w (.agg #[.bool s, .slice m n c]) z) : RVar (w.alloc (.cells #[.bool s, .slice m n c] 39)) w.heap.size s m n c z := ⟨Box2.new _ _ _ _, h.below (below_alloc _ _)⟩

theorem SzI.dlen {k : Nat} {z : Int} (h : SzI k z) (hk : 2 * k ≤ 100000000) : (D.lim z.natAbs).length ≤ 100000000 := by
  refine Nat.le_trans (D.lim_length_le (k := 2 * k) ?_) hk
  have : BB ^ k = D.BB ^ (2 * k) := bb_pow k
  unfold SzI at h
  rw [← this]; exact h
theorem SzI.word {c : Int} (hlo : -9223372036854775808 ≤ c) (hhi : c ≤ 9223372036854775807) : SzI 2 c := by
  unfold SzI BB; omega
theorem SzI.abs {k : Nat} {z : Int} (h : SzI k z) : SzI k (z.natAbs : Int) := by
  unfold SzI at *; simpa using h

end Go.Proofs.Ytngdnekbajnomaa

namespace Go.Proofs.Ytngdnekbajnomaa
open Go.RowKit

theorem RInt.cellsW {w : World} {v : Value} {z : Int} (h : RInt w v z) : ∃ s m n c, v = .agg #[.bool s, .slice m n c] ∧ RInt w (.agg #[.bool s, .slice m n c]) z := by
  obtain ⟨b, j, a, c, rfl, hx⟩ := h
  exact ⟨b, a, _, c, rfl, b, j, a, c, rfl, hx⟩
theorem Try.infoRW : (Try.prog.info? 39).map (fun i => (i.zero, i.size, i.bytes)) = some (some (.agg #[.bool false, .slice none 0 0]), 2, 32) := by kernel_rfl
theorem rint_nought {w : World} : RInt w (.agg #[.bool false, .slice none 0 0]) 0 := ⟨false, 0, none, 0, rfl, by show Nums w (.slice none 0 0) []; exact Nums.nil_mk _ _ _ (Nat.zero_le _), rfl, fun _ => rfl⟩
theorem cbL_take (c d : Int) (xs ys : List Int) (k : Nat) (hk : k < xs.length) (hl : ys.length = xs.length) : (cbL c xs d ys).take (k + 1) = (cbL c xs d ys).take k ++ [c * xs.getD k 0 + d * ys.getD k 0] := by
  have h' : k < (cbL c xs d ys).length := by rw [cbL_len]; exact hk
  rw [List.take_succ_eq_append_getElem h']
  congr 2
  have := cbL_at (c := c) (d := d) hl k
  simpa [h'] using this

set_option maxRecDepth 100000 in
set_option maxHeartbeats 8000000 in
theorem rcomb_any (vc va vd vb : Value) (xs ys : List Int) (c d : Int) (K : Nat) (w : World) (ic : RInt w vc c) (h1 : RInts w va xs) (id' : RInt w vd d) (h2 : RInts w vb ys) (hl : ys.length = xs.length) (hm : xs.length ≤ 1000000) (s1 : SzL K xs) (s2 : SzL K ys) (s3 : SzI K c) (s4 : SzI K d) (hK : K ≤ 1000000) :
    Calls Try.prog 22 #[vc, va, vd, vb] w fun e w' => ∃ v, e = .returned v ∧ RInts w' v (cbL c xs d ys) ∧ Below w.heap.size w w' := by
  obtain ⟨i1, hi1, hy0, hy1, hy2⟩ := info_parts Try.infoRW
  have TR := hide (And.intro hi1 (And.intro hy0 (And.intro hy1 hy2)))
  clear hi1 hy0 hy1 hy2
  obtain ⟨sc, mc, lc, cc, rfl, ic⟩ := ic.cellsW
  obtain ⟨sd, md, ld, cd, rfl, id'⟩ := id'.cellsW
  have NB := nboxes2 39 w (.bool sc) (.slice mc lc cc) (.bool sd) (.slice md ld cd)
  have CX := hide NB.1
  have DX := hide NB.2.1
  have HB := hide NB.2.2
  have IC := hide (ic.below NB.2.2)
  have ID := hide (id'.below NB.2.2)
  have H1 := hide (h1.below NB.2.2)
  have H2 := hide (h2.below NB.2.2)
  have S1 := hide s1
  have S2 := hide s2
  have S3 := hide s3
  have S4 := hide s4
  obtain ⟨aa, ca, rfl, hca, hma, _⟩ := h1
  obtain ⟨ab, cb, rfl, hcb, hmb, _⟩ := h2
  unfold maxLen at hma hmb
  clear NB ic id' s1 s2 s3 s4
  have HLY := hide hl
  obtain ⟨ny, hny⟩ : ∃ ny, ys.length = ny := ⟨_, rfl⟩
  rw [hny] at hl
  have HNY := hide hny
  rw [hny] at H2 ⊢
  clear hny
  subst hl
  go_enter Try.func22, Try.ntmps22
  go_wp2
  obtain ⟨w0, hw0⟩ : ∃ w0, (w.alloc (.cells #[.bool sc, .slice mc lc cc] 39)).alloc (.cells #[.bool sd, .slice md ld cd] 39) = w0 := ⟨_, rfl⟩
  rw [hw0] at CX DX HB IC ID H1 H2 ⊢
  clear hw0
  go_loopw [9, 10] (fun va iv wr => ∃ k : Nat, k ≤ xs.length ∧ iv = .int .i64 k ∧ Below w0.heap.size w0 wr ∧ ListR wr w0.heap.size va ((cbL c xs d ys).take k)) (fun _ iv _ => xs.length - (intOf iv).toNat)
  case atStart => exact ⟨0, Nat.zero_le _, rfl, Below.refl _ _, ListR.nil _ _⟩
  case round =>
    obtain ⟨k, hk, rfl, hb, hL⟩ := hrel
    have HR := hide hb
    have LR := hide hL
    clear hb hL
    by_cases hlt : k < xs.length
    · have TK := hide (cbL_take c d xs ys k hlt HLY.out)
      generalize hT : (cbL c xs d ys).take k = T at *
      have TL : Hid (T.length ≤ 1000000) := hide (by rw [← hT, List.length_take]; omega)
      clear hT
      obtain ⟨b1, o1, rfl, t1, q1, r1, u1, k1, k2, k3⟩ := H1.out.at hlt
      obtain ⟨b2, o2, rfl, t2, q2, r2, u2, j1, j2, j3⟩ := H2.out.at (i := k) (by have := HLY.out; omega)
      have K1 := hide k1
      have K2 := hide k2
      have J1 := hide j1
      have J2 := hide j2
      have I1 := hide k3
      have I2 := hide j3
      have SA := hide (S1.out k)
      have SB := hide (S2.out k)
      clear k1 k2 k3 j1 j2 j3
      generalize xs.getD k 0 = x at *
      generalize ys.getD k 0 = y at *
      go_upto_region 5 with fail
      replace LR := hide LR.out.drew
      refine wp_calm (fun w' => Below w0.heap.size w0 w') (fun j => j != 15 && j != 16) 17 #[false, false, false, false, false, false, false, false, false, false, false, false, false, false, false, false, false] (by kernel_rfl) rfl rfl ?_
      have HF := hide (HR.out.drew)
      generalize wr.drew = wrd at *
      refine Calm.takeL 17 (i := 0) (v := ?_) (a' := ?_) (l' := #[true, false, false, false, false, false, false, false, false, false, false, false, false, false, false, false, false]) (d := some 17) (by kernel_rfl) rfl (by kernel_rfl) (by kernel_rfl) (by kernel_rfl) (by kernel_rfl) (fun _ _ _ h => h) HF.out rfl ?_ rfl rfl ?_ ?_
      rotate_left
      · intro w' hF; clear hF; go_simp; try rfl
      rotate_left
      · simp only [Act.put]; exact rfl
      refine Calm.takeL 17 (i := 1) (v := ?_) (a' := ?_) (l' := #[true, true, false, false, false, false, false, false, false, false, false, false, false, false, false, false, false]) (d := some 18) (by kernel_rfl) rfl (by kernel_rfl) (by kernel_rfl) (by kernel_rfl) (by kernel_rfl) (fun _ _ _ h => h) HF.out rfl ?_ rfl rfl ?_ ?_
      rotate_left
      · intro w' hF; have f0 := (CX.out.step hF).cell0; have f1 := (CX.out.step hF).cell1; have f2 := (DX.out.step hF).cell0; have f3 := (DX.out.step hF).cell1; have f4 := (K1.out.step hF).out; have f5 := (K2.out.step hF).out; have f6 := (J1.out.step hF).out; have f7 := (J2.out.step hF).out; clear hF; go_simp; try rfl
      rotate_left
      · simp only [Act.put]; exact rfl
      refine Calm.takeL 17 (i := 2) (v := ?_) (a' := ?_) (l' := #[true, true, true, false, false, false, false, false, false, false, false, false, false, false, false, false, false]) (d := some 19) (by kernel_rfl) rfl (by kernel_rfl) (by kernel_rfl) (by kernel_rfl) (by kernel_rfl) (fun _ _ _ h => h) HF.out rfl ?_ rfl rfl ?_ ?_
      rotate_left
      · intro w' hF; clear hF; go_simp; try rfl
      rotate_left
      · simp only [Act.put]; exact rfl
      refine Calm.takeL 17 (i := 3) (v := ?_) (a' := ?_) (l' := #[true, true, true, true, false, false, false, false, false, false, false, false, false, false, false, false, false]) (d := some 20) (by kernel_rfl) rfl (by kernel_rfl) (by kernel_rfl) (by kernel_rfl) (by kernel_rfl) (fun _ _ _ h => h) HF.out rfl ?_ rfl rfl ?_ ?_
      rotate_left
      · intro w' hF; clear hF; go_simp; try rfl
      rotate_left
      · simp only [Act.put]; exact rfl
      refine Calm.takeL 17 (i := 4) (v := ?_) (a' := ?_) (l' := #[true, true, true, true, true, false, false, false, false, false, false, false, false, false, false, false, false]) (d := some 21) (by kernel_rfl) rfl (by kernel_rfl) (by kernel_rfl) (by kernel_rfl) (by kernel_rfl) (fun _ _ _ h => h) HF.out rfl ?_ rfl rfl ?_ ?_
      rotate_left
      · intro w' hF; clear hF; go_simp; try rfl
      rotate_left
      · simp only [Act.put]; exact rfl
      refine Calm.takeL 17 (i := 5) (v := ?_) (a' := ?_) (l' := #[true, true, true, true, true, true, false, false, false, false, false, false, false, false, false, false, false]) (d := some 22) (by kernel_rfl) rfl (by kernel_rfl) (by kernel_rfl) (by kernel_rfl) (by kernel_rfl) (fun _ _ _ h => h) HF.out rfl ?_ rfl rfl ?_ ?_
      rotate_left
      · intro w' hF; have f0 := (CX.out.step hF).cell0; have f1 := (CX.out.step hF).cell1; have f2 := (DX.out.step hF).cell0; have f3 := (DX.out.step hF).cell1; have f4 := (K1.out.step hF).out; have f5 := (K2.out.step hF).out; have f6 := (J1.out.step hF).out; have f7 := (J2.out.step hF).out; clear hF; go_simp; try rfl
      rotate_left
      · simp only [Act.put]; exact rfl
      refine Calm.takeL 17 (i := 7) (v := ?_) (a' := ?_) (l' := #[true, true, true, true, true, true, false, true, false, false, false, false, false, false, false, false, false]) (d := some 24) (by kernel_rfl) rfl (by kernel_rfl) (by kernel_rfl) (by kernel_rfl) (by kernel_rfl) (fun _ _ _ h => h) HF.out rfl ?_ rfl rfl ?_ ?_
      rotate_left
      · intro w' hF; have f0 := (CX.out.step hF).cell0; have f1 := (CX.out.step hF).cell1; have f2 := (DX.out.step hF).cell0; have f3 := (DX.out.step hF).cell1; have f4 := (K1.out.step hF).out; have f5 := (K2.out.step hF).out; have f6 := (J1.out.step hF).out; have f7 := (J2.out.step hF).out; clear hF; go_simp; try rfl
      rotate_left
      · simp only [Act.put]; exact rfl
      refine Calm.takeL 17 (i := 8) (v := ?_) (a' := ?_) (l' := #[true, true, true, true, true, true, false, true, true, false, false, false, false, false, false, false, false]) (d := some 25) (by kernel_rfl) rfl (by kernel_rfl) (by kernel_rfl) (by kernel_rfl) (by kernel_rfl) (fun _ _ _ h => h) HF.out rfl ?_ rfl rfl ?_ ?_
      rotate_left
      · intro w' hF; clear hF; go_simp; try rfl
      rotate_left
      · simp only [Act.put]; exact rfl
      refine Calm.takeL 17 (i := 9) (v := ?_) (a' := ?_) (l' := #[true, true, true, true, true, true, false, true, true, true, false, false, false, false, false, false, false]) (d := some 26) (by kernel_rfl) rfl (by kernel_rfl) (by kernel_rfl) (by kernel_rfl) (by kernel_rfl) (fun _ _ _ h => h) HF.out rfl ?_ rfl rfl ?_ ?_
      rotate_left
      · intro w' hF; clear hF; go_simp; try rfl
      rotate_left
      · simp only [Act.put]; exact rfl
      refine Calm.takeL 17 (i := 10) (v := ?_) (a' := ?_) (l' := #[true, true, true, true, true, true, false, true, true, true, true, false, false, false, false, false, false]) (d := some 27) (by kernel_rfl) rfl (by kernel_rfl) (by kernel_rfl) (by kernel_rfl) (by kernel_rfl) (fun _ _ _ h => h) HF.out rfl ?_ rfl rfl ?_ ?_
      rotate_left
      · intro w' hF; clear hF; go_simp; try rfl
      rotate_left
      · simp only [Act.put]; exact rfl
      refine Calm.takeL 17 (i := 11) (v := ?_) (a' := ?_) (l' := #[true, true, true, true, true, true, false, true, true, true, true, true, false, false, false, false, false]) (d := some 28) (by kernel_rfl) rfl (by kernel_rfl) (by kernel_rfl) (by kernel_rfl) (by kernel_rfl) (fun _ _ _ h => h) HF.out rfl ?_ rfl rfl ?_ ?_
      rotate_left
      · intro w' hF; have f0 := (CX.out.step hF).cell0; have f1 := (CX.out.step hF).cell1; have f2 := (DX.out.step hF).cell0; have f3 := (DX.out.step hF).cell1; have f4 := (K1.out.step hF).out; have f5 := (K2.out.step hF).out; have f6 := (J1.out.step hF).out; have f7 := (J2.out.step hF).out; clear hF; go_simp; try rfl
      rotate_left
      · simp only [Act.put]; exact rfl
      refine Calm.one (i := 6) (l' := #[true, true, true, true, true, true, true, true, true, true, true, true, false, false, false, false, false]) (by kernel_rfl) rfl rfl rfl fun K hK => ?_
      go_simp
      refine (rmul2_any _ _ c x _ (IC.out.below HF.out) (I1.out.below HF.out) (SzI.dlen S3.out (by omega)) (SzI.dlen SA.out (by omega))).mono ?_
      rintro e y1 ⟨v, rfl, i, hb⟩
      replace LR := hide (LR.out.below (hb))
      have HF' := hide (HF.out.trans ((hb).mono HF.out.size))
      have T1 := hide (i)
      refine hK _ _ (fun _ => HF'.out) ?_
      clear hK K HF hb i
      have HF := hide HF'.out
      clear HF'
      refine Calm.one (i := 12) (l' := #[true, true, true, true, true, true, true, true, true, true, true, true, true, false, false, false, false]) (by kernel_rfl) rfl rfl rfl fun K hK => ?_
      go_simp
      refine (rmul2_any _ _ d y _ (ID.out.below HF.out) (I2.out.below HF.out) (SzI.dlen S4.out (by omega)) (SzI.dlen SB.out (by omega))).mono ?_
      rintro e y2 ⟨v, rfl, i, hb⟩
      replace LR := hide (LR.out.below (hb))
      replace T1 := hide (T1.out.below (hb))
      have HF' := hide (HF.out.trans ((hb).mono HF.out.size))
      have T2 := hide (i)
      refine hK _ _ (fun _ => HF'.out) ?_
      clear hK K HF hb i
      have HF := hide HF'.out
      clear HF'
      refine Calm.one (i := 13) (l' := #[true, true, true, true, true, true, true, true, true, true, true, true, true, true, false, false, false]) (by kernel_rfl) rfl rfl rfl fun K hK => ?_
      go_simp
      refine (radd2_any _ _ (c * x) (d * y) _ T1.out T2.out (SzI.dlen (S3.out.mul SA.out) (by omega)) (SzI.dlen (S4.out.mul SB.out) (by omega))).mono ?_
      rintro e y3 ⟨v, rfl, i, hb⟩
      obtain ⟨s5, m5, l5, c5, rfl, i⟩ := i.cellsW
      replace LR := hide (LR.out.below (hb))
      clear T1
      clear T2
      have HF' := hide (HF.out.trans ((hb).mono HF.out.size))
      have TV := hide (i)
      refine hK _ _ (fun _ => HF'.out) ?_
      clear hK K HF hb i
      have HF := hide HF'.out
      clear HF'
      refine Calm.one (i := 14) (l' := #[true, true, true, true, true, true, true, true, true, true, true, true, true, true, true, false, false]) (by kernel_rfl) rfl rfl rfl fun K hK => ?_
      go_simp
      have al := below_alloc y3 (.cells #[.bool s5, .slice m5 l5 c5] 39)
      have HF' := hide (HF.out.trans ((al).mono HF.out.size))
      have BXe := hide (Box2.new y3 39 (.bool s5) (.slice m5 l5 c5))
      replace LR := hide (LR.out.below (al))
      replace TV := hide (TV.out.below (al))
      have GEe := hide (HF.out.size)
      refine hK _ _ (fun _ => HF'.out) ?_
      clear hK K HF al
      have HF := hide HF'.out
      clear HF'
      generalize y3.alloc (.cells #[.bool s5, .slice m5 l5 c5] 39) = wze at *
      generalize y3.heap.size = ge at *
      refine Calm.one (i := 15) (l' := #[true, true, true, true, true, true, true, true, true, true, true, true, true, true, true, true, false]) (by kernel_rfl) rfl rfl rfl fun K hK => ?_
      obtain ⟨zx, ho, hx⟩ := LR.out
      have he0 := BXe.out.cell0
      have he1 := BXe.out.cell1
      refine wp_app2 _ (.tmp 17) (.tmp 31) 32 rfl w0.heap.size 39 _ Try.underlying32 TR.out.1 TR.out.2.1 TR.out.2.2.1 TR.out.2.2.2 u9 T.length zx rfl ho ge 1 s5 m5 l5 c5 rfl he0 he1 (by have := TL.out; omega) (by have h1 := HF.out.size; omega) ?_
      intro vB xB ho' hg hob
      clear he0 he1
      refine hK _ _ (fun h => absurd h (by decide)) ?_
      clear hK K
      refine Calm.one (i := 16) (l' := #[true, true, true, true, true, true, true, true, true, true, true, true, true, true, true, true, true]) (by kernel_rfl) rfl rfl rfl fun K hK => ?_
      go_simp
      refine hK _ _ (fun h => absurd h (by decide)) ?_
      clear hK K
      refine Calm.done (by kernel_rfl) ?_
      have LR2 := hide (ListR.app ho hx TV.out ho' hg)
      have HR2 := hide (HF.out.grown hg HF.out.size (fun g e => (LR.out.lt e).1))
      clear HF ho hx ho' hg hob TV BXe
      go_wp2
      go_roundw
      case rel => exact ⟨k + 1, by omega, by go_num, HR2.out, by rw [TK.out]; exact LR2.out⟩
      case measure => simp [intOf]; omega
    · have e : k = xs.length := by omega
      subst e
      have ET : Hid ((cbL c xs d ys).take xs.length = cbL c xs d ys) := hide (List.take_of_length_le (by rw [cbL_len]; omega))
      rw [ET.out] at LR
      go_wp2
      go_ret
      exact ⟨_, rfl, LR.out.rints, HB.out.trans (HR.out.mono HB.out.size)⟩

set_option maxRecDepth 100000 in
set_option maxHeartbeats 2000000 in
theorem r4scale_any (va vc : Value) (xs : List Int) (c : Int) (K : Nat) (w : World) (h1 : RInts w va xs) (ic : RInt w vc c) (hm : xs.length ≤ 1000000) (s1 : SzL K xs) (s3 : SzI K c) (hK : K ≤ 1000000) :
    Calls Try.prog 16 #[va, vc] w fun e w' => ∃ v, e = .returned v ∧ RInts w' v (scL xs c) ∧ Below w.heap.size w w' := by
  obtain ⟨sc, mc, lc, cc, rfl, ic⟩ := ic.cellsW
  have HB := hide (below_alloc w (.cells #[.bool sc, .slice mc lc cc] 39))
  have H1 := hide (h1.below HB.out)
  have IC := hide (ic.below HB.out)
  obtain ⟨aa, ca, rfl, hca, hma, _⟩ := h1
  clear ic
  go_enter Try.func16, Try.ntmps16
  go_wp2_with fail
  generalize w.alloc (.cells #[.bool sc, .slice mc lc cc] 39) = w0 at *
  refine (rcomb_any _ _ _ _ xs xs c 0 K _ IC.out H1.out rint_nought H1.out rfl hm s1 s1 s3 (SzI.zero.mono (by omega)) hK).mono ?_
  rintro e w1 ⟨v, rfl, i, hb⟩
  rw [show cbL c xs 0 xs = scL xs c from list_ext (by rw [cbL_len, scL_len]) fun i _ => by rw [cbL_at rfl, scL_at, Int.zero_mul, Int.add_zero, Int.mul_comm]] at i
  have HV := hide i
  replace HB := hide (HB.out.trans (hb.mono HB.out.size))
  clear i hb
  go_wp2
  go_ret
  exact ⟨_, rfl, HV.out, HB.out⟩
end Go.Proofs.Ytngdnekbajnomaa

namespace Go.Proofs.Ytngdnekbajnomaa
open Go.RowKit

def sbL (xs ys : List Int) : List Int := (List.range xs.length).map fun i => xs.getD i 0 - ys.getD i 0
theorem sbL_len (xs ys : List Int) : (sbL xs ys).length = xs.length := by simp [sbL]
theorem sbL_at {xs ys : List Int} (hl : ys.length = xs.length) (i : Nat) : (sbL xs ys).getD i 0 = xs.getD i 0 - ys.getD i 0 := by
  unfold sbL; rw [getD_map]; split
  · rfl
  · rw [getD_over (xs := xs) (by omega), getD_over (xs := ys) (by omega)]; rfl
theorem SzL.sub {k : Nat} {xs ys : List Int} (hl : ys.length = xs.length) (h : SzL k xs) (h' : SzL k ys) : SzL (k + 1) (sbL xs ys) := fun i => by rw [sbL_at hl]; exact ((h i).sub (h' i)).mono (by omega)

set_option maxRecDepth 100000 in
set_option maxHeartbeats 2000000 in
theorem r4add_any (va vb : Value) (xs ys : List Int) (K : Nat) (w : World) (h1 : RInts w va xs) (h2 : RInts w vb ys) (hl : ys.length = xs.length) (hm : xs.length ≤ 1000000) (s1 : SzL K xs) (s2 : SzL K ys) (hK1 : 1 ≤ K) (hK : K ≤ 1000000) :
    Calls Try.prog 20 #[va, vb] w fun e w' => ∃ v, e = .returned v ∧ RInts w' v (adL xs ys) ∧ Below w.heap.size w w' := by
  have H1 := hide h1
  have H2 := hide h2
  have HL := hide hl
  obtain ⟨aa, ca, rfl, _, _, _⟩ := h1
  obtain ⟨ab, cb, rfl, _, _, _⟩ := h2
  generalize hnx : xs.length = nx at *
  generalize hny : ys.length = ny at *
  have NX := hide hnx
  have NY := hide hny
  clear hl hnx hny
  go_enter Try.func20, Try.ntmps20
  go_wp2_with fail
  refine (rof_any 1 _ (by decide) (by decide)).mono ?_
  rintro e w1 ⟨v1, rfl, i1, hb⟩
  have HB := hide hb
  replace H1 := hide (H1.out.below hb)
  replace H2 := hide (H2.out.below hb)
  have I1 := hide i1
  clear hb i1
  go_wp2_with fail
  refine (rof_any 1 _ (by decide) (by decide)).mono ?_
  rintro e w2 ⟨v2, rfl, i2, hb⟩
  replace HB := hide (HB.out.trans (hb.mono HB.out.size))
  replace H1 := hide (H1.out.below hb)
  replace H2 := hide (H2.out.below hb)
  replace I1 := hide (I1.out.below hb)
  have I2 := hide i2
  clear hb i2
  go_wp2_with fail
  refine (rcomb_any _ _ _ _ xs ys 1 1 K _ I1.out H1.out I2.out H2.out (by rw [NX.out, NY.out]; exact HL.out) (by rw [NX.out]; exact hm) s1 s2 (SzI.one.mono hK1) (SzI.one.mono hK1) hK).mono ?_
  rintro e w3 ⟨v, rfl, i, hb⟩
  have hl' : ys.length = xs.length := by rw [NX.out, NY.out]; exact HL.out
  rw [show cbL 1 xs 1 ys = adL xs ys from list_ext (by rw [cbL_len, adL_len]) fun i _ => by rw [cbL_at hl', adL_at hl']; omega] at i
  have HV := hide i
  replace HB := hide (HB.out.trans (hb.mono HB.out.size))
  clear i hb hl'
  go_wp2
  go_ret
  exact ⟨_, rfl, HV.out, HB.out⟩

set_option maxRecDepth 100000 in
set_option maxHeartbeats 2000000 in
theorem r4sub_any (va vb : Value) (xs ys : List Int) (K : Nat) (w : World) (h1 : RInts w va xs) (h2 : RInts w vb ys) (hl : ys.length = xs.length) (hm : xs.length ≤ 1000000) (s1 : SzL K xs) (s2 : SzL K ys) (hK1 : 1 ≤ K) (hK : K ≤ 1000000) :
    Calls Try.prog 21 #[va, vb] w fun e w' => ∃ v, e = .returned v ∧ RInts w' v (sbL xs ys) ∧ Below w.heap.size w w' := by
  have H1 := hide h1
  have H2 := hide h2
  have HL := hide hl
  obtain ⟨aa, ca, rfl, _, _, _⟩ := h1
  obtain ⟨ab, cb, rfl, _, _, _⟩ := h2
  generalize hnx : xs.length = nx at *
  generalize hny : ys.length = ny at *
  have NX := hide hnx
  have NY := hide hny
  clear hl hnx hny
  go_enter Try.func21, Try.ntmps21
  go_wp2_with fail
  refine (rof_any 1 _ (by decide) (by decide)).mono ?_
  rintro e w1 ⟨v1, rfl, i1, hb⟩
  have HB := hide hb
  replace H1 := hide (H1.out.below hb)
  replace H2 := hide (H2.out.below hb)
  have I1 := hide i1
  clear hb i1
  go_wp2_with fail
  refine (rof_any (-1) _ (by decide) (by decide)).mono ?_
  rintro e w2 ⟨v2, rfl, i2, hb⟩
  replace HB := hide (HB.out.trans (hb.mono HB.out.size))
  replace H1 := hide (H1.out.below hb)
  replace H2 := hide (H2.out.below hb)
  replace I1 := hide (I1.out.below hb)
  have I2 := hide i2
  clear hb i2
  go_wp2_with fail
  refine (rcomb_any _ _ _ _ xs ys 1 (-1) K _ I1.out H1.out I2.out H2.out (by rw [NX.out, NY.out]; exact HL.out) (by rw [NX.out]; exact hm) s1 s2 (SzI.one.mono hK1) (SzI.one.neg.mono hK1) hK).mono ?_
  rintro e w3 ⟨v, rfl, i, hb⟩
  have hl' : ys.length = xs.length := by rw [NX.out, NY.out]; exact HL.out
  rw [show cbL 1 xs (-1) ys = sbL xs ys from list_ext (by rw [cbL_len, sbL_len]) fun i _ => by rw [cbL_at hl', sbL_at hl']; omega] at i
  have HV := hide i
  replace HB := hide (HB.out.trans (hb.mono HB.out.size))
  clear i hb hl'
  go_wp2
  go_ret
  exact ⟨_, rfl, HV.out, HB.out⟩

set_option maxRecDepth 100000 in
set_option maxHeartbeats 8000000 in
theorem r4dot_any (va vb : Value) (xs ys : List Int) (K : Nat) (w : World) (h1 : RInts w va xs) (h2 : RInts w vb ys) (hl : ys.length = xs.length) (hm : xs.length ≤ 1000000) (s1 : SzL K xs) (s2 : SzL K ys) (hK : K ≤ 1000000) :
    Calls Try.prog 24 #[va, vb] w fun e w' => ∃ v, e = .returned v ∧ RInt w' v (dotL xs ys) ∧ Below w.heap.size w w' := by
  have H1 := hide h1
  have H2 := hide h2
  have S1 := hide s1
  have S2 := hide s2
  obtain ⟨aa, ca, rfl, hca, hma, _⟩ := h1
  obtain ⟨ab, cb, rfl, hcb, hmb, _⟩ := h2
  unfold maxLen at hma hmb
  have NB := nboxes2 39 w (.bool false) (.slice none 0 0) (.bool false) (.slice none 0 0)
  have RX := hide NB.1
  have OX := hide NB.2.1
  have HB := hide NB.2.2
  have SD : Hid (∀ i, SzI (K + K + xs.length) (accZ (· + ·) 0 ((List.range xs.length).map fun i => xs.getD i 0 * ys.getD i 0) i)) := hide (fun i => dot_sz s1 s2 (Nat.le_refl _) i)
  have HLY := hide hl
  obtain ⟨ny, hny⟩ : ∃ ny, ys.length = ny := ⟨_, rfl⟩
  rw [hny] at hl
  rw [hny] at H2 ⊢
  clear hny NB s1 s2
  subst hl
  go_enter Try.func24, Try.ntmps24
  go_wp2
  go_loopw [6] (fun iv wr => ∃ (k : Nat) (so : Bool) (mo : Option Addr) (lo co : Nat), k ≤ xs.length ∧ iv = .int .i64 k ∧ Box2 wr w.heap.size 39 (.bool false) (.slice none 0 0) ∧ Box2 wr (w.heap.size + 1) 39 (.bool so) (.slice mo lo co) ∧ RInt wr (.agg #[.bool so, .slice mo lo co]) (accZ (· + ·) 0 ((List.range xs.length).map fun i => xs.getD i 0 * ys.getD i 0) k) ∧ Below w.heap.size w wr) (fun iv _ => xs.length - (intOf iv).toNat)
  case atStart => exact ⟨0, false, none, 0, 0, Nat.zero_le _, rfl, RX.out, OX.out, rint_nought, HB.out⟩
  case round =>
    clear RX OX HB
    obtain ⟨k, so, mo, lo, co, hk, rfl, hx, hy, hi, hb⟩ := hrel
    have RX := hide hx
    have OX := hide hy
    have IhO := hide hi
    have HB := hide hb
    clear hx hy hi hb
    by_cases hlt : k < xs.length
    · have HA : Hid (accZ (· + ·) 0 ((List.range xs.length).map fun i => xs.getD i 0 * ys.getD i 0) (k + 1) = accZ (· + ·) 0 ((List.range xs.length).map fun i => xs.getD i 0 * ys.getD i 0) k + xs.getD k 0 * ys.getD k 0) := hide (by show accZ (· + ·) 0 _ k + _ = _; rw [dot_at xs ys _ k rfl])
      have SO := hide (SD.out k)
      generalize accZ (· + ·) 0 ((List.range xs.length).map fun i => xs.getD i 0 * ys.getD i 0) k = z at *
      obtain ⟨b1, o1, rfl, t1, q1, r1, u1, k1, k2, k3⟩ := H1.out.at hlt
      obtain ⟨b2, o2, rfl, t2, q2, r2, u2, j1, j2, j3⟩ := H2.out.at (i := k) (by have := HLY.out; omega)
      have K1 := hide k1
      have K2 := hide k2
      have J1 := hide j1
      have J2 := hide j2
      have I1 := hide k3
      have I2 := hide j3
      have SA := hide (S1.out k)
      have SB := hide (S2.out k)
      clear k1 k2 k3 j1 j2 j3
      generalize xs.getD k 0 = x at *
      generalize ys.getD k 0 = y at *
      go_upto_region 5 with fail
      refine wp_calm (fun w' => Below w.heap.size w w' ∧ Box2 w' w.heap.size 39 (.bool false) (.slice none 0 0) ∧ Box2 w' (w.heap.size + 1) 39 (.bool so) (.slice mo lo co) ∧ RInt w' (.agg #[.bool so, .slice mo lo co]) z) (fun j => j != 11) 12 #[false, false, false, false, false, false, false, false, false, false, false, false] (by kernel_rfl) rfl rfl ?_
      have HF := hide (And.intro (HB.out.drew) (And.intro (RX.out.drew) (And.intro (OX.out.drew) (IhO.out.drew))))
      generalize wr.drew = wrd at *
      refine Calm.takeL 12 (i := 0) (v := ?_) (a' := ?_) (l' := #[true, false, false, false, false, false, false, false, false, false, false, false]) (d := some 14) (by kernel_rfl) rfl (by kernel_rfl) (by kernel_rfl) (by kernel_rfl) (by kernel_rfl) (fun _ _ _ h => h) HF.out rfl ?_ rfl rfl ?_ ?_
      rotate_left
      · intro w' hF; have f0 := hF.2.2.1.cell0; have f1 := hF.2.2.1.cell1; have f4 := (K1.out.step hF.1).out; have f5 := (K2.out.step hF.1).out; have f6 := (J1.out.step hF.1).out; have f7 := (J2.out.step hF.1).out; clear hF; go_simp; try rfl
      rotate_left
      · simp only [Act.put]; exact rfl
      refine Calm.takeL 12 (i := 1) (v := ?_) (a' := ?_) (l' := #[true, true, false, false, false, false, false, false, false, false, false, false]) (d := some 15) (by kernel_rfl) rfl (by kernel_rfl) (by kernel_rfl) (by kernel_rfl) (by kernel_rfl) (fun _ _ _ h => h) HF.out rfl ?_ rfl rfl ?_ ?_
      rotate_left
      · intro w' hF; clear hF; go_simp; try rfl
      rotate_left
      · simp only [Act.put]; exact rfl
      refine Calm.takeL 12 (i := 2) (v := ?_) (a' := ?_) (l' := #[true, true, true, false, false, false, false, false, false, false, false, false]) (d := some 16) (by kernel_rfl) rfl (by kernel_rfl) (by kernel_rfl) (by kernel_rfl) (by kernel_rfl) (fun _ _ _ h => h) HF.out rfl ?_ rfl rfl ?_ ?_
      rotate_left
      · intro w' hF; clear hF; go_simp; try rfl
      rotate_left
      · simp only [Act.put]; exact rfl
      refine Calm.takeL 12 (i := 3) (v := ?_) (a' := ?_) (l' := #[true, true, true, true, false, false, false, false, false, false, false, false]) (d := some 17) (by kernel_rfl) rfl (by kernel_rfl) (by kernel_rfl) (by kernel_rfl) (by kernel_rfl) (fun _ _ _ h => h) HF.out rfl ?_ rfl rfl ?_ ?_
      rotate_left
      · intro w' hF; clear hF; go_simp; try rfl
      rotate_left
      · simp only [Act.put]; exact rfl
      refine Calm.takeL 12 (i := 4) (v := ?_) (a' := ?_) (l' := #[true, true, true, true, true, false, false, false, false, false, false, false]) (d := some 18) (by kernel_rfl) rfl (by kernel_rfl) (by kernel_rfl) (by kernel_rfl) (by kernel_rfl) (fun _ _ _ h => h) HF.out rfl ?_ rfl rfl ?_ ?_
      rotate_left
      · intro w' hF; have f0 := hF.2.2.1.cell0; have f1 := hF.2.2.1.cell1; have f4 := (K1.out.step hF.1).out; have f5 := (K2.out.step hF.1).out; have f6 := (J1.out.step hF.1).out; have f7 := (J2.out.step hF.1).out; clear hF; go_simp; try rfl
      rotate_left
      · simp only [Act.put]; exact rfl
      refine Calm.takeL 12 (i := 5) (v := ?_) (a' := ?_) (l' := #[true, true, true, true, true, true, false, false, false, false, false, false]) (d := some 19) (by kernel_rfl) rfl (by kernel_rfl) (by kernel_rfl) (by kernel_rfl) (by kernel_rfl) (fun _ _ _ h => h) HF.out rfl ?_ rfl rfl ?_ ?_
      rotate_left
      · intro w' hF; clear hF; go_simp; try rfl
      rotate_left
      · simp only [Act.put]; exact rfl
      refine Calm.takeL 12 (i := 6) (v := ?_) (a' := ?_) (l' := #[true, true, true, true, true, true, true, false, false, false, false, false]) (d := some 20) (by kernel_rfl) rfl (by kernel_rfl) (by kernel_rfl) (by kernel_rfl) (by kernel_rfl) (fun _ _ _ h => h) HF.out rfl ?_ rfl rfl ?_ ?_
      rotate_left
      · intro w' hF; clear hF; go_simp; try rfl
      rotate_left
      · simp only [Act.put]; exact rfl
      refine Calm.takeL 12 (i := 7) (v := ?_) (a' := ?_) (l' := #[true, true, true, true, true, true, true, true, false, false, false, false]) (d := some 21) (by kernel_rfl) rfl (by kernel_rfl) (by kernel_rfl) (by kernel_rfl) (by kernel_rfl) (fun _ _ _ h => h) HF.out rfl ?_ rfl rfl ?_ ?_
      rotate_left
      · intro w' hF; clear hF; go_simp; try rfl
      rotate_left
      · simp only [Act.put]; exact rfl
      refine Calm.takeL 12 (i := 8) (v := ?_) (a' := ?_) (l' := #[true, true, true, true, true, true, true, true, true, false, false, false]) (d := some 22) (by kernel_rfl) rfl (by kernel_rfl) (by kernel_rfl) (by kernel_rfl) (by kernel_rfl) (fun _ _ _ h => h) HF.out rfl ?_ rfl rfl ?_ ?_
      rotate_left
      · intro w' hF; have f0 := hF.2.2.1.cell0; have f1 := hF.2.2.1.cell1; have f4 := (K1.out.step hF.1).out; have f5 := (K2.out.step hF.1).out; have f6 := (J1.out.step hF.1).out; have f7 := (J2.out.step hF.1).out; clear hF; go_simp; try rfl
      rotate_left
      · simp only [Act.put]; exact rfl
      refine Calm.one (i := 9) (l' := #[true, true, true, true, true, true, true, true, true, true, false, false]) (by kernel_rfl) rfl rfl rfl fun K hK => ?_
      go_simp
      refine (rmul2_any _ _ x y _ (I1.out.below HF.out.1) (I2.out.below HF.out.1) (SzI.dlen SA.out (by omega)) (SzI.dlen SB.out (by omega))).mono ?_
      rintro e y1 ⟨v, rfl, i, hb⟩
      have HF' := hide (And.intro (HF.out.1.trans ((hb).mono HF.out.1.size)) (And.intro (HF.out.2.1.step (hb)) (And.intro (HF.out.2.2.1.step (hb)) (HF.out.2.2.2.below (hb)))))
      have T1 := hide (i)
      refine hK _ _ (fun _ => HF'.out) ?_
      clear hK K HF hb i
      have HF := hide HF'.out
      clear HF'
      refine Calm.one (i := 10) (l' := #[true, true, true, true, true, true, true, true, true, true, true, false]) (by kernel_rfl) rfl rfl rfl fun K hK => ?_
      go_simp
      refine (radd2_any _ _ z (x * y) _ HF.out.2.2.2 T1.out (SzI.dlen SO.out (by omega)) (SzI.dlen (SA.out.mul SB.out) (by omega))).mono ?_
      rintro e y2 ⟨v, rfl, i, hb⟩
      obtain ⟨s5, m5, l5, c5, rfl, i⟩ := i.cellsW
      clear T1
      have HF' := hide (And.intro (HF.out.1.trans ((hb).mono HF.out.1.size)) (And.intro (HF.out.2.1.step (hb)) (And.intro (HF.out.2.2.1.step (hb)) (HF.out.2.2.2.below (hb)))))
      have TV := hide (i)
      refine hK _ _ (fun _ => HF'.out) ?_
      clear hK K HF hb i
      have HF := hide HF'.out
      clear HF'
      refine Calm.one (i := 11) (l' := #[true, true, true, true, true, true, true, true, true, true, true, true]) (by kernel_rfl) rfl rfl rfl fun K hK => ?_
      have c0 := HF.out.2.2.1.cell0
      have c1 := HF.out.2.2.1.cell1
      have f0 := HF.out.2.2.1.free 0
      have f1 := HF.out.2.2.1.free 1
      go_simp
      refine hK _ _ (fun h => absurd h (by decide)) ?_
      clear hK K
      refine Calm.done (by kernel_rfl) ?_
      go_wp2
      go_roundw
      case rel => exact ⟨k + 1, s5, m5, l5, c5, by omega, by go_num, (HF.out.2.1.set_ne (by omega) _).set_ne (by omega) _, (HF.out.2.2.1.set0 _).set1 _, by rw [HA.out]; exact TV.out.keep (keeps2 HF.out.2.2.1 (by simp) (by simp) _ _), (HF.out.1.setCell (p := ⟨w.heap.size + 1, 0, none⟩) (by simp) _).setCell (p := ⟨w.heap.size + 1, 1, none⟩) (by simp) _⟩
      case measure => simp [intOf]; omega
    · have e : k = xs.length := by omega
      subst e
      have c0 := OX.out.cell0
      have c1 := OX.out.cell1
      have d0 := RX.out.cell0
      have d1 := RX.out.cell1
      have f0 := RX.out.free 0
      have f1 := RX.out.free 1
      go_wp2
      refine ret_ref rfl w.heap.size _ _ _ _ rfl ((RX.out.set0 _).set1 _) rfl ?_
      exact ⟨_, rfl, IhO.out.keep (keeps2 RX.out (by simp) (by simp) _ _), (HB.out.setCell (p := ⟨w.heap.size, 0, none⟩) (by simp) _).setCell (p := ⟨w.heap.size, 1, none⟩) (by simp) _⟩
end Go.Proofs.Ytngdnekbajnomaa
