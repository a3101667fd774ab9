/- swageref04's Content, Over, Primitive. -/
import Derived.Test.YtejkjdjobeabfaaWRComb
import Derived.Test.YtejkjdjobeabfaaR2Gcd
import Derived.Test.YtejkjdjobeabfaaR2Over
import Derived.Deep.CutRange
namespace Go.Proofs.Ytejkjdjobeabfaa
open Go.RowKit

theorem SzI.dlen7 {k : Nat} {z : Int} (h : SzI k z) (hk : k ≤ 1000000) : (D.lim z.natAbs).length ≤ 10000000 := by
  refine Nat.le_trans (D.lim_length_le (k := 2 * k) ?_) (by omega)
  have : BB ^ k = D.BB ^ (2 * k) := bb_pow k
  unfold SzI at h
  rw [← this]; exact h

set_option maxRecDepth 100000 in
set_option maxHeartbeats 8000000 in
theorem r4content_any (va : Value) (xs : List Int) (K : Nat) (w : World) (h1 : RInts w va xs) (s1 : SzL K xs) (hK : K ≤ 1000000) :
    Calls Try.prog 27 #[va] w fun e w' => ∃ v, e = .returned v ∧ RInt w' v (gcdTo xs xs.length : Int) ∧ Below w.heap.size w w' := by
  have H1 := hide h1
  have S1 := hide s1
  obtain ⟨aa, ca, rfl, hca, hma, _⟩ := h1
  unfold maxLen at hma
  have NB := nboxes2 39 w (.bool false) (.slice none 0 0) (.bool false) (.slice none 0 0)
  have RX := hide NB.1
  have OX := hide NB.2.1
  have HB := hide NB.2.2
  have SD : Hid (∀ i, SzI K (gcdTo xs i : Int)) := hide (fun i => gcdTo_sz s1 i)
  clear NB s1
  go_enter Try.func27, Try.ntmps27
  go_wp2
  go_loopw [4] (fun iv wr => ∃ (k : Nat) (so : Bool) (mo : Option Addr) (lo co : Nat), k ≤ xs.length ∧ iv = .int .i64 k ∧ Box2 wr w.heap.size 39 (.bool false) (.slice none 0 0) ∧ Box2 wr (w.heap.size + 1) 39 (.bool so) (.slice mo lo co) ∧ RInt wr (.agg #[.bool so, .slice mo lo co]) (gcdTo xs k : Int) ∧ Below w.heap.size w wr) (fun iv _ => xs.length - (intOf iv).toNat)
  case atStart => exact ⟨0, false, none, 0, 0, Nat.zero_le _, rfl, RX.out, OX.out, rint_nought, HB.out⟩
  case round =>
    clear RX OX HB
    obtain ⟨k, so, mo, lo, co, hk, rfl, hx, hy, hi, hb⟩ := hrel
    have RX := hide hx
    have OX := hide hy
    have IhO := hide hi
    have HB := hide hb
    clear hx hy hi hb
    by_cases hlt : k < xs.length
    · have HA : Hid ((gcdTo xs (k + 1) : Int) = (Int.gcd (gcdTo xs k : Int) (xs.getD k 0) : Int)) := hide rfl
      have SO := hide (SD.out k)
      generalize (gcdTo xs k : Int) = z at *
      obtain ⟨b1, o1, rfl, t1, q1, r1, u1, k1, k2, k3⟩ := H1.out.at hlt
      have K1 := hide k1
      have K2 := hide k2
      have I1 := hide k3
      have SA := hide (S1.out k)
      clear k1 k2 k3
      generalize xs.getD k 0 = x at *
      go_upto_region 5 with fail
      refine wp_calm (fun w' => Below w.heap.size w w' ∧ Box2 w' w.heap.size 39 (.bool false) (.slice none 0 0) ∧ Box2 w' (w.heap.size + 1) 39 (.bool so) (.slice mo lo co) ∧ RInt w' (.agg #[.bool so, .slice mo lo co]) z) (fun j => j != 6) 7 #[false, false, false, false, false, false, false] (by kernel_rfl) rfl rfl ?_
      have HF := hide (And.intro (HB.out.drew) (And.intro (RX.out.drew) (And.intro (OX.out.drew) (IhO.out.drew))))
      generalize wr.drew = wrd at *
      refine Calm.takeL 7 (i := 0) (v := ?_) (a' := ?_) (l' := #[true, false, false, false, false, false, false]) (d := some 12) (by kernel_rfl) rfl (by kernel_rfl) (by kernel_rfl) (by kernel_rfl) (by kernel_rfl) (fun _ _ _ h => h) HF.out rfl ?_ rfl rfl ?_ ?_
      rotate_left
      · intro w' hF; have f0 := hF.2.2.1.cell0; have f1 := hF.2.2.1.cell1; have f4 := (K1.out.step hF.1).out; have f5 := (K2.out.step hF.1).out; clear hF; go_simp; try rfl
      rotate_left
      · simp only [Act.put]; exact rfl
      refine Calm.takeL 7 (i := 1) (v := ?_) (a' := ?_) (l' := #[true, true, false, false, false, false, false]) (d := some 13) (by kernel_rfl) rfl (by kernel_rfl) (by kernel_rfl) (by kernel_rfl) (by kernel_rfl) (fun _ _ _ h => h) HF.out rfl ?_ rfl rfl ?_ ?_
      rotate_left
      · intro w' hF; clear hF; go_simp; try rfl
      rotate_left
      · simp only [Act.put]; exact rfl
      refine Calm.takeL 7 (i := 2) (v := ?_) (a' := ?_) (l' := #[true, true, true, false, false, false, false]) (d := some 14) (by kernel_rfl) rfl (by kernel_rfl) (by kernel_rfl) (by kernel_rfl) (by kernel_rfl) (fun _ _ _ h => h) HF.out rfl ?_ rfl rfl ?_ ?_
      rotate_left
      · intro w' hF; clear hF; go_simp; try rfl
      rotate_left
      · simp only [Act.put]; exact rfl
      refine Calm.takeL 7 (i := 3) (v := ?_) (a' := ?_) (l' := #[true, true, true, true, false, false, false]) (d := some 15) (by kernel_rfl) rfl (by kernel_rfl) (by kernel_rfl) (by kernel_rfl) (by kernel_rfl) (fun _ _ _ h => h) HF.out rfl ?_ rfl rfl ?_ ?_
      rotate_left
      · intro w' hF; clear hF; go_simp; try rfl
      rotate_left
      · simp only [Act.put]; exact rfl
      refine Calm.takeL 7 (i := 4) (v := ?_) (a' := ?_) (l' := #[true, true, true, true, true, false, false]) (d := some 16) (by kernel_rfl) rfl (by kernel_rfl) (by kernel_rfl) (by kernel_rfl) (by kernel_rfl) (fun _ _ _ h => h) HF.out rfl ?_ rfl rfl ?_ ?_
      rotate_left
      · intro w' hF; have f0 := hF.2.2.1.cell0; have f1 := hF.2.2.1.cell1; have f4 := (K1.out.step hF.1).out; have f5 := (K2.out.step hF.1).out; clear hF; go_simp; try rfl
      rotate_left
      · simp only [Act.put]; exact rfl
      refine Calm.one (i := 5) (l' := #[true, true, true, true, true, true, false]) (by kernel_rfl) rfl rfl rfl fun K hK => ?_
      go_simp
      refine (rgcd_any _ _ z x _ HF.out.2.2.2 (I1.out.below HF.out.1) (SzI.dlen7 SO.out (by omega)) (SzI.dlen7 SA.out (by omega))).mono ?_
      rintro e y2 ⟨v, rfl, i, hb⟩
      obtain ⟨s5, m5, l5, c5, rfl, i⟩ := i.cellsW
      have HF' := hide (And.intro (HF.out.1.trans ((hb).mono HF.out.1.size)) (And.intro (HF.out.2.1.step (hb)) (And.intro (HF.out.2.2.1.step (hb)) (HF.out.2.2.2.below (hb)))))
      have TV := hide (i)
      refine hK _ _ (fun _ => HF'.out) ?_
      clear hK K HF hb i
      have HF := hide HF'.out
      clear HF'
      refine Calm.one (i := 6) (l' := #[true, true, true, true, true, true, true]) (by kernel_rfl) rfl rfl rfl fun K hK => ?_
      have c0 := HF.out.2.2.1.cell0
      have c1 := HF.out.2.2.1.cell1
      have f0 := HF.out.2.2.1.free 0
      have f1 := HF.out.2.2.1.free 1
      go_simp
      refine hK _ _ (fun h => absurd h (by decide)) ?_
      clear hK K
      refine Calm.done (by kernel_rfl) ?_
      go_wp2
      go_roundw
      case rel => exact ⟨k + 1, s5, m5, l5, c5, by omega, by go_num, (HF.out.2.1.set_ne (by omega) _).set_ne (by omega) _, (HF.out.2.2.1.set0 _).set1 _, by rw [HA.out]; exact TV.out.keep (keeps2 HF.out.2.2.1 (by simp) (by simp) _ _), (HF.out.1.setCell (p := ⟨w.heap.size + 1, 0, none⟩) (by simp) _).setCell (p := ⟨w.heap.size + 1, 1, none⟩) (by simp) _⟩
      case measure => simp [intOf]; omega
    · have e : k = xs.length := by omega
      subst e
      have c0 := OX.out.cell0
      have c1 := OX.out.cell1
      have d0 := RX.out.cell0
      have d1 := RX.out.cell1
      have f0 := RX.out.free 0
      have f1 := RX.out.free 1
      go_wp2
      refine ret_ref rfl w.heap.size _ _ _ _ rfl ((RX.out.set0 _).set1 _) rfl ?_
      exact ⟨_, rfl, IhO.out.keep (keeps2 RX.out (by simp) (by simp) _ _), (HB.out.setCell (p := ⟨w.heap.size, 0, none⟩) (by simp) _).setCell (p := ⟨w.heap.size, 1, none⟩) (by simp) _⟩

/-- the quotients -/
def qoL (xs : List Int) (c : Int) : List Int := (List.range xs.length).map fun i => xs.getD i 0 / c
theorem qoL_len (xs : List Int) (c : Int) : (qoL xs c).length = xs.length := by simp [qoL]
theorem qoL_take (xs : List Int) (c : Int) (k : Nat) (hk : k < xs.length) : (qoL xs c).take (k + 1) = (qoL xs c).take k ++ [xs.getD k 0 / c] := by
  have h' : k < (qoL xs c).length := by rw [qoL_len]; exact hk
  rw [List.take_succ_eq_append_getElem h']
  congr 2
  simp [qoL]
theorem overE_bad {xs : List Int} {c : Int} : ∀ {k i : Nat}, i < k → xs.getD i 0 % c ≠ 0 → overE xs c k = 20
  | 0, _, h, _ => absurd h (Nat.not_lt_zero _)
  | k + 1, i, h, hne => by
    show (if xs.getD k 0 % c = 0 then overE xs c k else 20) = 20
    rcases Nat.lt_succ_iff_lt_or_eq.1 h with l | rfl
    · rw [overE_bad l hne]; split <;> rfl
    · rw [if_neg hne]
/-- what the document's Over answers where it divides by what is not 0 -/
def ROvP (xs : List Int) (z : Int) (w : World) (e : Ending) (w' : World) : Prop :=
  (overE xs z xs.length = 0 ∧ ∃ v, e = .returned (.tuple #[v, .bool true]) ∧ RInts w' v (qoL xs z) ∧ (∀ g o n c, v = .slice (some ⟨g, o, none⟩) n c → w.heap.size ≤ g) ∧ Below w.heap.size w w') ∨
  (overE xs z xs.length = 20 ∧ e = .returned (.tuple #[.slice none 0 0, .bool false]) ∧ Below w.heap.size w w')

set_option maxRecDepth 100000 in
set_option maxHeartbeats 8000000 in
theorem r4over_any (va vc : Value) (xs : List Int) (c : Int) (K : Nat) (w : World) (h1 : RInts w va xs) (ic : RInt w vc c) (hc : c ≠ 0) (hm : xs.length ≤ 1000000) (s1 : SzL K xs) (s3 : SzI K c) (hK : K ≤ 1000000) :
    Calls Try.prog 32 #[va, vc] w fun e w' => ROvP xs c w e w' := by
  obtain ⟨i1, hi1, hy0, hy1, hy2⟩ := info_parts Try.infoRW
  have TR := hide (And.intro hi1 (And.intro hy0 (And.intro hy1 hy2)))
  clear hi1 hy0 hy1 hy2
  obtain ⟨sc, mc, lc, cc, rfl, ic⟩ := ic.cellsW
  have HB := hide (below_alloc w (.cells #[.bool sc, .slice mc lc cc] 39))
  have CX := hide (Box2.new w 39 (.bool sc) (.slice mc lc cc))
  have H1 := hide (h1.below HB.out)
  have IC := hide (ic.below HB.out)
  have S1 := hide s1
  have S3 := hide s3
  have HC := hide hc
  obtain ⟨aa, ca, rfl, hca, hma, _⟩ := h1
  unfold maxLen at hma
  clear ic s1 s3 hc
  go_enter Try.func32, Try.ntmps32
  go_wp2
  generalize w.alloc (.cells #[.bool sc, .slice mc lc cc] 39) = w0 at *
  go_loopw [4, 5, 6, 7, 8, 9] (fun _ _ va iv _ _ wr => ∃ k : Nat, k ≤ xs.length ∧ iv = .int .i64 k ∧ Below w0.heap.size w0 wr ∧ ListR wr w0.heap.size va ((qoL xs c).take k) ∧ overE xs c k = 0) (fun _ _ _ iv _ _ _ => xs.length - (intOf iv).toNat)
  case atStart => exact ⟨0, Nat.zero_le _, rfl, Below.refl _ _, ListR.nil _ _, rfl⟩
  case round =>
    obtain ⟨k, hk, rfl, hb, hL, hE⟩ := hrel
    have HR := hide hb
    have LR := hide hL
    have OE := hide hE
    clear hb hL hE
    by_cases hlt : k < xs.length
    · have TK := hide (qoL_take xs c k hlt)
      generalize hT : (qoL xs c).take k = T at *
      have TL : Hid (T.length ≤ 1000000) := hide (by rw [← hT, List.length_take]; omega)
      clear hT
      obtain ⟨b1, o1, rfl, t1, q1, r1, u1, k1, k2, k3⟩ := H1.out.at hlt
      have K1 := hide k1
      have K2 := hide k2
      have I1 := hide k3
      have SA := hide (S1.out k)
      clear k1 k2 k3
      generalize hx : xs.getD k 0 = x at *
      have HX := hide hx
      clear hx
      go_upto_region 5 with fail
      have CR := hide (CX.out.step HR.out)
      have K1r := hide (K1.out.step HR.out)
      have K2r := hide (K2.out.step HR.out)
      have I1r := hide (I1.out.below HR.out)
      have ICr := hide (IC.out.below HR.out)
      go_cut [8, 9] from 10 to 30 (fun p8 p9 wx => ∃ g8 s8 m8 l8 c8 z b, p8 = .pointer (some ⟨g8, 0, none⟩) ∧ p9 = .bool b ∧ Box2 wx g8 39 (.bool s8) (.slice m8 l8 c8) ∧ RInt wx (.agg #[.bool s8, .slice m8 l8 c8]) z ∧ ((x % c ≠ 0 ∧ z = 0 ∧ b = false) ∨ (x % c = 0 ∧ z = x / c ∧ b = true)) ∧ Below wr.heap.size wr wx)
      case first =>
        refine wp_calm (fun w' => Below wr.heap.size wr w') (fun _ => true) 12 #[false, false, false, false, false, false, false, false, false, false, false, false] (by kernel_rfl) rfl rfl ?_
        have HF := hide ((Below.refl wr.heap.size wr).drew)
        generalize wr.drew = wrd at *
        refine Calm.take (i := 0) (v := ?_) (a' := ?_) (l' := #[true, false, false, false, false, false, false, false, false, false, false, false]) (d := some 17) rfl (by kernel_rfl) (by kernel_rfl) (by kernel_rfl) (by kernel_rfl) (fun _ _ _ h => h) HF.out rfl ?_ rfl rfl ?_ ?_
        rotate_left
        · intro w' hF; clear hF; go_simp; try rfl
        rotate_left
        · simp only [Act.put]; exact rfl
        refine Calm.take (i := 1) (v := ?_) (a' := ?_) (l' := #[true, true, false, false, false, false, false, false, false, false, false, false]) (d := some 18) rfl (by kernel_rfl) (by kernel_rfl) (by kernel_rfl) (by kernel_rfl) (fun _ _ _ h => h) HF.out rfl ?_ rfl rfl ?_ ?_
        rotate_left
        · intro w' hF; clear hF; go_simp; try rfl
        rotate_left
        · simp only [Act.put]; exact rfl
        refine Calm.take (i := 2) (v := ?_) (a' := ?_) (l' := #[true, true, true, false, false, false, false, false, false, false, false, false]) (d := some 19) rfl (by kernel_rfl) (by kernel_rfl) (by kernel_rfl) (by kernel_rfl) (fun _ _ _ h => h) HF.out rfl ?_ rfl rfl ?_ ?_
        rotate_left
        · intro w' hF; clear hF; go_simp; try rfl
        rotate_left
        · simp only [Act.put]; exact rfl
        refine Calm.take (i := 3) (v := ?_) (a' := ?_) (l' := #[true, true, true, true, false, false, false, false, false, false, false, false]) (d := some 20) rfl (by kernel_rfl) (by kernel_rfl) (by kernel_rfl) (by kernel_rfl) (fun _ _ _ h => h) HF.out rfl ?_ rfl rfl ?_ ?_
        rotate_left
        · intro w' hF; have f0 := (CR.out.step hF).cell0; have f1 := (CR.out.step hF).cell1; have f4 := (K1r.out.step hF).out; have f5 := (K2r.out.step hF).out; clear hF; go_simp; try rfl
        rotate_left
        · simp only [Act.put]; exact rfl
        refine Calm.take (i := 4) (v := ?_) (a' := ?_) (l' := #[true, true, true, true, true, false, false, false, false, false, false, false]) (d := some 21) rfl (by kernel_rfl) (by kernel_rfl) (by kernel_rfl) (by kernel_rfl) (fun _ _ _ h => h) HF.out rfl ?_ rfl rfl ?_ ?_
        rotate_left
        · intro w' hF; have f0 := (CR.out.step hF).cell0; have f1 := (CR.out.step hF).cell1; have f4 := (K1r.out.step hF).out; have f5 := (K2r.out.step hF).out; clear hF; go_simp; try rfl
        rotate_left
        · simp only [Act.put]; exact rfl
        refine Calm.two (i := 5) (j := 9) (l := #[true, true, true, true, true, true, false, false, false, false, false, false]) (l' := #[true, true, true, true, true, false, false, false, false, true, false, false]) (by kernel_rfl) rfl rfl rfl rfl rfl rfl (fun K hK => ?_) (fun K hK => ?_)
        · go_simp
          refine (rover_any _ _ x c _ (I1r.out.below HF.out) (ICr.out.below HF.out) (SzI.dlen7 SA.out (by omega)) (SzI.dlen7 S3.out (by omega)) HC.out).mono ?_
          rintro e y1 ⟨v, z, b, rfl, i, hcs, hb⟩
          obtain ⟨s8, m8, l8, c8, rfl, i⟩ := i.cellsW
          have CS := hide hcs
          have HF' := hide (HF.out.trans ((hb).mono HF.out.size))
          have T1 := hide (i)
          refine hK _ _ (fun _ => HF'.out) ?_
          clear hK K HF hb i hcs
          have HF := hide HF'.out
          clear HF'
          refine Calm.take (i := 6) (v := ?_) (a' := ?_) (l' := #[true, true, true, true, true, true, true, false, false, false, false, false]) (d := some 16) rfl (by kernel_rfl) (by kernel_rfl) (by kernel_rfl) (by kernel_rfl) (fun _ _ _ h => h) HF.out rfl ?_ rfl rfl ?_ ?_
          rotate_left
          · intro w' hF; clear hF; go_simp; try rfl
          rotate_left
          · simp only [Act.put]; exact rfl
          refine Calm.take (i := 7) (v := ?_) (a' := ?_) (l' := #[true, true, true, true, true, true, true, true, false, false, false, false]) (d := some 23) rfl (by kernel_rfl) (by kernel_rfl) (by kernel_rfl) (by kernel_rfl) (fun _ _ _ h => h) HF.out rfl ?_ rfl rfl ?_ ?_
          rotate_left
          · intro w' hF; clear hF; go_simp; try rfl
          rotate_left
          · simp only [Act.put]; exact rfl
          refine Calm.take (i := 8) (v := ?_) (a' := ?_) (l' := #[true, true, true, true, true, true, true, true, true, false, false, false]) (d := some 24) rfl (by kernel_rfl) (by kernel_rfl) (by kernel_rfl) (by kernel_rfl) (fun _ _ _ h => h) HF.out rfl ?_ rfl rfl ?_ ?_
          rotate_left
          · intro w' hF; clear hF; go_simp; try rfl
          rotate_left
          · simp only [Act.put]; exact rfl
          refine Calm.one (i := 9) (l' := #[true, true, true, true, true, true, true, true, true, true, false, false]) (by kernel_rfl) rfl rfl rfl fun K hK => ?_
          go_simp
          have al := below_alloc y1 (.cells #[.bool false, .slice none 0 0] 39)
          have HF' := hide (HF.out.trans ((al).mono HF.out.size))
          have BXe := hide (Box2.new y1 39 (.bool false) (.slice none 0 0))
          replace T1 := hide (T1.out.below (al))
          have GEe := hide (HF.out.size)
          refine hK _ _ (fun _ => HF'.out) ?_
          clear hK K HF al
          have HF := hide HF'.out
          clear HF'
          generalize y1.alloc (.cells #[.bool false, .slice none 0 0] 39) = wze at *
          generalize y1.heap.size = ge at *
          refine Calm.one (i := 10) (l' := #[true, true, true, true, true, true, true, true, true, true, true, false]) (by kernel_rfl) rfl rfl rfl fun K hK => ?_
          have LTS := hide GEe.out
          have hc0 := BXe.out.cell0
          have hc1 := BXe.out.cell1
          have hf0 := BXe.out.free 0
          have hf1 := BXe.out.free 1
          go_simp
          have HF' := hide (below_put HF.out (show wr.heap.size ≤ ge by have hx := LTS.out; omega) (.bool s8) (.slice m8 l8 c8))
          replace T1 := hide (T1.out.keep (BXe.out.keeps (by simp) (by simp) (.bool s8) (.slice m8 l8 c8)))
          replace BXe := hide (BXe.out.put (.bool s8) (.slice m8 l8 c8))
          refine hK _ _ (fun _ => HF'.out) ?_
          clear hK K HF hc0 hf0 hc1 hf1
          have HF := hide HF'.out
          clear HF'
          generalize ((wze.setCell ⟨ge, 0, none⟩ (.bool s8)).setCell ⟨ge, 1, none⟩ (.slice m8 l8 c8)) = ws1 at *
          refine Calm.take (i := 11) (v := ?_) (a' := ?_) (l' := #[true, true, true, true, true, true, true, true, true, true, true, true]) (d := some 9) rfl (by kernel_rfl) (by kernel_rfl) (by kernel_rfl) (by kernel_rfl) (fun _ _ _ h => h) HF.out rfl ?_ rfl rfl ?_ ?_
          rotate_left
          · intro w' hF; clear hF; go_simp; try rfl
          rotate_left
          · simp only [Act.put]; exact rfl
          refine Calm.done (by kernel_rfl) ?_
          go_wp2
          go_meet
          case rel => exact ⟨ge, s8, m8, l8, c8, z, b, rfl, rfl, BXe.out, T1.out, CS.out, HF.out⟩
        · go_simp
          have al := below_alloc wrd (.cells #[.bool false, .slice none 0 0] 39)
          have HF' := hide (HF.out.trans ((al).mono HF.out.size))
          have BXe := hide (Box2.new wrd 39 (.bool false) (.slice none 0 0))
          have GEe := hide (HF.out.size)
          refine hK _ _ (fun _ => HF'.out) ?_
          clear hK K HF al
          have HF := hide HF'.out
          clear HF'
          generalize wrd.alloc (.cells #[.bool false, .slice none 0 0] 39) = wze at *
          generalize wrd.heap.size = ge at *
          refine Calm.one (i := 5) (l' := #[true, true, true, true, true, true, false, false, false, true, false, false]) (by kernel_rfl) rfl rfl rfl fun K hK => ?_
          go_simp
          refine (rover_any _ _ x c _ (I1r.out.below HF.out) (ICr.out.below HF.out) (SzI.dlen7 SA.out (by omega)) (SzI.dlen7 S3.out (by omega)) HC.out).mono ?_
          rintro e y1 ⟨v, z, b, rfl, i, hcs, hb⟩
          obtain ⟨s8, m8, l8, c8, rfl, i⟩ := i.cellsW
          have CS := hide hcs
          replace BXe := hide (BXe.out.step hb)
          have HF' := hide (HF.out.trans ((hb).mono HF.out.size))
          have T1 := hide (i)
          refine hK _ _ (fun _ => HF'.out) ?_
          clear hK K HF hb i hcs
          have HF := hide HF'.out
          clear HF'
          refine Calm.take (i := 6) (v := ?_) (a' := ?_) (l' := #[true, true, true, true, true, true, true, false, false, true, false, false]) (d := some 16) rfl (by kernel_rfl) (by kernel_rfl) (by kernel_rfl) (by kernel_rfl) (fun _ _ _ h => h) HF.out rfl ?_ rfl rfl ?_ ?_
          rotate_left
          · intro w' hF; clear hF; go_simp; try rfl
          rotate_left
          · simp only [Act.put]; exact rfl
          refine Calm.take (i := 7) (v := ?_) (a' := ?_) (l' := #[true, true, true, true, true, true, true, true, false, true, false, false]) (d := some 23) rfl (by kernel_rfl) (by kernel_rfl) (by kernel_rfl) (by kernel_rfl) (fun _ _ _ h => h) HF.out rfl ?_ rfl rfl ?_ ?_
          rotate_left
          · intro w' hF; clear hF; go_simp; try rfl
          rotate_left
          · simp only [Act.put]; exact rfl
          refine Calm.take (i := 8) (v := ?_) (a' := ?_) (l' := #[true, true, true, true, true, true, true, true, true, true, false, false]) (d := some 24) rfl (by kernel_rfl) (by kernel_rfl) (by kernel_rfl) (by kernel_rfl) (fun _ _ _ h => h) HF.out rfl ?_ rfl rfl ?_ ?_
          rotate_left
          · intro w' hF; clear hF; go_simp; try rfl
          rotate_left
          · simp only [Act.put]; exact rfl
          refine Calm.one (i := 10) (l' := #[true, true, true, true, true, true, true, true, true, true, true, false]) (by kernel_rfl) rfl rfl rfl fun K hK => ?_
          have LTS := hide GEe.out
          have hc0 := BXe.out.cell0
          have hc1 := BXe.out.cell1
          have hf0 := BXe.out.free 0
          have hf1 := BXe.out.free 1
          go_simp
          have HF' := hide (below_put HF.out (show wr.heap.size ≤ ge by have hx := LTS.out; omega) (.bool s8) (.slice m8 l8 c8))
          replace T1 := hide (T1.out.keep (BXe.out.keeps (by simp) (by simp) (.bool s8) (.slice m8 l8 c8)))
          replace BXe := hide (BXe.out.put (.bool s8) (.slice m8 l8 c8))
          refine hK _ _ (fun _ => HF'.out) ?_
          clear hK K HF hc0 hf0 hc1 hf1
          have HF := hide HF'.out
          clear HF'
          generalize ((y1.setCell ⟨ge, 0, none⟩ (.bool s8)).setCell ⟨ge, 1, none⟩ (.slice m8 l8 c8)) = ws1 at *
          refine Calm.take (i := 11) (v := ?_) (a' := ?_) (l' := #[true, true, true, true, true, true, true, true, true, true, true, true]) (d := some 9) rfl (by kernel_rfl) (by kernel_rfl) (by kernel_rfl) (by kernel_rfl) (fun _ _ _ h => h) HF.out rfl ?_ rfl rfl ?_ ?_
          rotate_left
          · intro w' hF; clear hF; go_simp; try rfl
          rotate_left
          · simp only [Act.put]; exact rfl
          refine Calm.done (by kernel_rfl) ?_
          go_wp2
          go_meet
          case rel => exact ⟨ge, s8, m8, l8, c8, z, b, rfl, rfl, BXe.out, T1.out, CS.out, HF.out⟩
      case rest =>
        obtain ⟨g8, s8, m8, l8, c8, z, b, rfl, rfl, hx8, hi8, hcs, hb⟩ := hcut
        have B8 := hide hx8
        have I8 := hide hi8
        replace LR := hide (LR.out.below hb)
        replace HR := hide (HR.out.trans (hb.mono HR.out.size))
        clear hx8 hi8 hb CR K1r K2r I1r ICr
        rcases hcs with ⟨hne, _, rfl⟩ | ⟨heq, rfl, rfl⟩
        · have BD := hide hne
          clear hne
          go_wp2
          go_ret2
          exact .inr ⟨overE_bad hlt (by rw [HX.out]; exact BD.out), rfl, HB.out.trans (HR.out.mono HB.out.size)⟩
        · have EQ := hide heq
          clear heq
          have c0 := B8.out.cell0
          have c1 := B8.out.cell1
          have AL := hide (below_alloc wc (.cells #[.bool s8, .slice m8 l8 c8] 39))
          have LRA := hide (LR.out.below AL.out)
          have HRA := hide (HR.out.trans (AL.out.mono HR.out.size))
          have I8A := hide (I8.out.below AL.out)
          obtain ⟨zx, ho, hx⟩ := LRA.out
          have he := Box2.new wc 39 (.bool s8) (.slice m8 l8 c8)
          have he0 := he.cell0
          have he1 := he.cell1
          clear he
          go_wp2_with (at_builtin; refine wpList_plain rfl fun K hK => wp_app2 _ (.tmp 27) (.tmp 29) 32 rfl w0.heap.size 39 _ Try.underlying32 TR.out.1 TR.out.2.1 TR.out.2.2.1 TR.out.2.2.2 u6 T.length zx rfl ho wc.heap.size 1 s8 m8 l8 c8 rfl he0 he1 (by have := TL.out; omega) (by have h1 := HR.out.size; simp; omega) ?_; intro vB xB ho' hg hob; have LR2 := hide (ListR.app ho hx I8A.out ho' hg); have HR2 := hide (HRA.out.grown hg HRA.out.size (fun g e => (LRA.out.lt e).1)); refine hK _ _ ?_; clear hK ho hx ho' hg hob he0 he1)
          go_roundw
          case rel => exact ⟨k + 1, by omega, by go_num, HR2.out, by rw [TK.out]; exact LR2.out, by show (if xs.getD k 0 % c = 0 then overE xs c k else 20) = 0; rw [if_pos (by rw [HX.out]; exact EQ.out)]; exact OE.out⟩
          case measure => simp [intOf]; omega
    · have e : k = xs.length := by omega
      subst e
      have ET : Hid ((qoL xs c).take xs.length = qoL xs c) := hide (List.take_of_length_le (by rw [qoL_len]; omega))
      rw [ET.out] at LR
      go_wp2
      go_ret2
      exact .inl ⟨OE.out, _, rfl, LR.out.rints, fun g o n c e => Nat.le_trans HB.out.size (LR.out.lt (g := g) (by simp at e; rw [e]; rfl)).1, HB.out.trans (HR.out.mono HB.out.size)⟩

theorem rints_off {w : World} {C : Nat} {v : Value} {zs : List Int} {x y : Value} (h : RInts w v zs) (hC : Box2 w C 39 x y) (hx : ∀ z, x ≠ .int .u32 z) (hy : ∀ z, y ≠ .int .u32 z) (hv : ∀ g o n c, v = .slice (some ⟨g, o, none⟩) n c → g ≠ C) (x' y' : Value) :
    RInts ((w.setCell ⟨C, 0, none⟩ x').setCell ⟨C, 1, none⟩ y') v zs := by
  obtain ⟨a, cap, rfl, h1, h2, h3⟩ := h
  refine ⟨a, cap, rfl, h1, h2, fun hz => ?_⟩
  obtain ⟨b, off, rfl, hc⟩ := h3 hz
  refine ⟨b, off, rfl, fun i hi => ?_⟩
  obtain ⟨s, m, c, n, k1, k2, k3⟩ := hc i hi
  have hne := hv b off _ _ rfl
  exact ⟨s, m, c, n, ((CellAt.mk k1).put (B := C) hne x' y').out, ((CellAt.mk k2).put (B := C) hne x' y').out, k3.keep (keeps2 hC hx hy x' y')⟩
theorem run_makeR (n : Nat) (hn : n ≤ 4000000000) (w : World) :
    (Instr.makeSlice 32 (.int .i64 n) (.int .i64 n)).run Try.prog w = .ok (.slice (some ⟨w.heap.size, 0, none⟩) n n) (w.alloc (.cells (madeCells #[.bool false, .slice none 0 0] (n * 2)) 39)) := by
  obtain ⟨i0, hi, hz0, hz1, hz2⟩ := info_parts Try.infoRW
  have hr := run_make (P := Try.prog) w 32 39 i0 (.agg #[.bool false, .slice none 0 0]) Try.underlying32 hi hz0 .i64 .i64 n n (by omega) (Int.le_refl _) (by rw [hz2]; omega) (by omega)
  rw [hr]
  simp only [Int.toNat_natCast, hz1]
  rfl
theorem rints_new (w : World) (n : Nat) (hn : n ≤ 4000000000) : RInts (w.alloc (.cells (madeCells #[.bool false, .slice none 0 0] (n * 2)) 39)) (.slice (some ⟨w.heap.size, 0, none⟩) n n) (List.replicate n 0) := by
  have hh : (w.alloc (.cells (madeCells #[.bool false, .slice none 0 0] (n * 2)) 39)).heap[w.heap.size]? = some (.cells (madeCells #[.bool false, .slice none 0 0] (n * 2)) 39 (0, 0)) := heap_alloc_new _ _
  generalize w.alloc (.cells (madeCells #[.bool false, .slice none 0 0] (n * 2)) 39) = W at *
  refine ⟨some ⟨w.heap.size, 0, none⟩, n, by simp, by simp, by unfold maxLen; omega, fun _ => ⟨_, 0, rfl, fun i hi => ⟨false, none, 0, 0, ?_, ?_, ?_⟩⟩⟩
  · have hi' : i < n := by simpa using hi
    unfold World.cell?; simp only [hh]; simp [madeCells, show i * 2 < n * 2 by omega]
  · have hi' : i < n := by simpa using hi
    unfold World.cell?; simp only [hh]; simp [madeCells, show i * 2 + 1 < n * 2 by omega, show (i * 2 + 1) % 2 = 1 by omega]
  · have e : (List.replicate n (0 : Int)).getD i 0 = 0 := by have hi' : i < n := by simpa using hi
                                                             simp [hi']
    rw [e]; exact rint_nought
set_option maxRecDepth 100000 in
set_option maxHeartbeats 2000000 in
theorem r4zero_any (n : Nat) (w : World) (hn : n ≤ 1000000) :
    Calls Try.prog 57 #[.int .i64 n] w fun e w' => ∃ v, e = .returned v ∧ RInts w' v (List.replicate n 0) ∧ (∀ g o n c, v = .slice (some ⟨g, o, none⟩) n c → w.heap.size ≤ g) ∧ Below w.heap.size w w' := by
  have hmk := run_makeR n (by omega)
  go_enter Try.func57, Try.ntmps57
  go_wp2
  go_ret
  exact ⟨_, rfl, rints_new w n (by omega), fun g o n c e => by cases e; exact Nat.le_refl _, below_alloc _ _⟩

/-- a list and a number are handed back -/
theorem ret_rl {fn : Func} {R : Ending → World → Prop} {a : Act} {w : World} {p u : Tmp} (h : fn.results = #[.tmp u, .cell p 39]) (g : Nat) (x y : Value)
    (hp : a.tmps.getD p undef = .pointer (some ⟨g, 0, none⟩)) (hg : Box2 w g 39 x y) (hd : a.defers = []) (hR : R (.returned (.tuple #[a.tmps.getD u undef, .agg #[x, y]])) w) : bodyPost Try.prog fn R .ret a w := by
  refine bodyPost_ret ?_ hd hR
  have hp' : a.tmps[p]?.getD undef = .pointer (some ⟨g, 0, none⟩) := by simpa using hp
  simp [results, h, hp', asAddr, run_loadVar_row w g 39 39 #[x, y] (0, 0) _ hg Try.underlying39 rfl Try.infoRef]
theorem gcdTo_zero {xs : List Int} : ∀ k, (∀ i, i < k → xs.getD i 0 = 0) → gcdTo xs k = 0
  | 0, _ => rfl
  | k + 1, h => by show Int.gcd (gcdTo xs k : Int) (xs.getD k 0) = 0; rw [gcdTo_zero k (fun i hi => h i (by omega)), h k (by omega)]; rfl
theorem gcdTo_nz {xs : List Int} {k i : Nat} (hi : i < k) (h : xs.getD i 0 ≠ 0) : gcdTo xs k ≠ 0 := fun e => h (by have := gcdTo_dvd xs k i hi; rw [e] at this; exact Int.zero_dvd.1 this)
/-- what the document's Primitive answers -/
def RPrP (xs : List Int) (w : World) (e : Ending) (w' : World) : Prop := ∃ v u, e = .returned (.tuple #[v, u]) ∧ RInts w' v (primL xs) ∧ RInt w' u (contS xs) ∧ Below w.heap.size w w'

set_option maxRecDepth 100000 in
set_option maxHeartbeats 8000000 in
theorem r4prim_any (va : Value) (xs : List Int) (K : Nat) (w : World) (h1 : RInts w va xs) (hm : xs.length ≤ 1000000) (s1 : SzL K xs) (hK : K ≤ 1000000) :
    Calls Try.prog 28 #[va] w fun e w' => RPrP xs w e w' := by
  have S1 := hide s1
  have SG := hide (gcdTo_sz s1 xs.length)
  have SC := hide (contS_sz s1)
  have RX := hide (Box2.new w 39 (.bool false) (.slice none 0 0))
  have HB := hide (below_alloc w (.cells #[.bool false, .slice none 0 0] 39))
  have H1 := hide (h1.below HB.out)
  have H0 := hide h1
  have LD0 : Hid (leadI (xs.drop 0) = leadI xs) := hide (by simp)
  obtain ⟨aa, ca, rfl, hca, hma, _⟩ := h1
  unfold maxLen at hma
  clear s1
  go_enter Try.func28, Try.ntmps28
  go_wp2_with fail
  generalize w.alloc (.cells #[.bool false, .slice none 0 0] 39) = w0 at *
  refine (r4content_any _ xs K _ H1.out S1.out hK).mono ?_
  rintro e w1 ⟨v, rfl, i, hb⟩
  obtain ⟨s4, m4, l4, c4, rfl, i⟩ := i.cellsW
  replace HB := hide (HB.out.trans (hb.mono HB.out.size))
  replace RX := hide (RX.out.step hb)
  replace H1 := hide (H1.out.below hb)
  have IG := hide i
  clear i hb
  go_upto_region 2 with fail
  have al := below_alloc w1 (.cells #[.bool s4, .slice m4 l4 c4] 39)
  replace HB := hide (HB.out.trans (al.mono HB.out.size))
  have L13 := hide RX.out.lt
  replace RX := hide (RX.out.step al)
  replace H1 := hide (H1.out.below al)
  replace IG := hide (IG.out.below al)
  have GX := hide (Box2.new w1 39 (.bool s4) (.slice m4 l4 c4))
  clear al
  generalize w1.alloc (.cells #[.bool s4, .slice m4 l4 c4] 39) = w2 at *
  generalize w1.heap.size = g4 at *
  go_wp2
  go_loopw [2, 5, 6, 7] (fun _ iv _ _ wr => ∃ k : Nat, k ≤ xs.length ∧ iv = .int .i64 k ∧ Below w2.heap.size w2 wr ∧ (∀ i, i < k → xs.getD i 0 = 0) ∧ leadI (xs.drop k) = leadI xs) (fun _ iv _ _ _ => xs.length - (intOf iv).toNat)
  case atStart => exact ⟨0, Nat.zero_le _, rfl, Below.refl _ _, fun _ h => absurd h (Nat.not_lt_zero _), LD0.out⟩
  case round =>
    obtain ⟨k, hk, rfl, hb, hz, hld⟩ := hrel
    have HR := hide hb
    have HZ := hide hz
    have LD := hide hld
    clear hb hz hld
    by_cases hlt : k < xs.length
    · obtain ⟨b1, o1, rfl, t1, q1, r1, u1, k1, k2, k3⟩ := H1.out.at hlt
      have K1 := hide k1
      have K2 := hide k2
      have I1 := hide k3
      clear k1 k2 k3
      have SX := hide (lead_drop (zs := xs) hlt)
      obtain ⟨x, hx⟩ : ∃ x, xs.getD k 0 = x := ⟨_, rfl⟩
      rw [hx] at I1 SX
      have HX := hide hx
      clear hx
      have c4 := (K1.out.step HR.out).out
      have c5 := (K2.out.step HR.out).out
      go_wp2_with fail
      refine (rsign_any _ x _ (I1.out.below HR.out)).mono ?_
      rintro e w3 ⟨rfl, hb⟩
      replace HR := hide (HR.out.trans (hb.mono HR.out.size))
      clear hb c4 c5
      by_cases h0 : x = 0
      · rw [show sgnI x = 0 from by rw [h0]; rfl]
        have X0 := hide h0
        clear h0
        go_wp2
        go_roundw
        case rel => exact ⟨k + 1, by omega, by go_num, HR.out, fun i hi => by rcases Nat.lt_succ_iff_lt_or_eq.1 hi with h | rfl; exact HZ.out i h; exact HX.out.trans X0.out, by rw [← LD.out, SX.out, if_pos X0.out]⟩
        case measure => simp [intOf]; omega
      · have GN := hide (gcdTo_nz hlt (by rw [HX.out]; exact h0))
        have LE : Hid (leadI xs = sgnI x) := hide (by rw [← LD.out, SX.out, if_neg h0])
        have c4 := (K1.out.step HR.out).out
        have c5 := (K2.out.step HR.out).out
        have hs0 : (sgnI x != 0) = true := by have := sgnI_ne0 h0; simpa using this
        go_wp2_with fail
        refine (rsign_any _ x _ (I1.out.below HR.out)).mono ?_
        rintro e w4 ⟨rfl, hb⟩
        replace HR := hide (HR.out.trans (hb.mono HR.out.size))
        clear hb c4 c5 hs0
        have CD := hide (fun i (h : i < xs.length) => contS_dvd xs i h)
        have CN : Hid (contS xs ≠ 0) := hide (fun e => GN.out (by rw [← contS_abs, e]; rfl))
        have PL : Hid (qoL xs (contS xs) = primL xs) := hide (by unfold primL qoL; rw [if_neg GN.out])
        by_cases hneg : sgnI x < 0
        · have CE : Hid (-(gcdTo xs xs.length : Int) = contS xs) := hide (by unfold contS; rw [if_pos (by rw [LE.out]; exact hneg)])
          have d0 := (GX.out.step HR.out).cell0
          have d1 := (GX.out.step HR.out).cell1
          go_wp2_with fail
          refine (rneg_any _ _ _ (IG.out.below HR.out)).mono ?_
          rintro e w5 ⟨v, rfl, i, hb⟩
          obtain ⟨s5, m5, l5, c5, rfl, i⟩ := i.cellsW
          rw [CE.out] at i
          have HR5 := hide (HR.out.trans (hb.mono HR.out.size))
          have G5 := hide (GX.out.step HR5.out)
          have IC5 := hide (i.keep (keeps2 G5.out (by simp) (by simp) (.bool s5) (.slice m5 l5 c5)))
          have RX5 := hide (((RX.out.step HR5.out).set_ne (o := 0) (C := g4) (Nat.ne_of_gt L13.out) (.bool s5)).set_ne (o := 1) (C := g4) (Nat.ne_of_gt L13.out) (.slice m5 l5 c5))
          have GX5 := hide ((G5.out.set0 (.bool s5)).set1 (.slice m5 l5 c5))
          have HB5 := hide (((HB.out.trans (HR5.out.mono HB.out.size)).setCell (p := ⟨g4, 0, none⟩) (Nat.le_of_lt L13.out) (.bool s5)).setCell (p := ⟨g4, 1, none⟩) (Nat.le_of_lt L13.out) (.slice m5 l5 c5))
          have e0 := G5.out.cell0
          have e1 := G5.out.cell1
          have f0 := G5.out.free 0
          have f1 := G5.out.free 1
          clear i hb d0 d1
          go_upto_region 8 with fail
          clear e0 e1 f0 f1
          generalize (w5.setCell ⟨g4, 0, none⟩ (.bool s5)).setCell ⟨g4, 1, none⟩ (.slice m5 l5 c5) = w6 at *
          have e0 := GX5.out.cell0
          have e1 := GX5.out.cell1
          go_wp2_with fail
          clear e0 e1
          refine (r4over_any _ _ xs (contS xs) K _ (H0.out.below HB5.out) IC5.out CN.out hm S1.out SC.out hK).mono ?_
          rintro e w7 hov
          rcases hov with ⟨_, v, rfl, hi, hv, hb⟩ | ⟨h20, _, _⟩
          · have RV := hide hi
            have VB : Hid (∀ g o n c, v = .slice (some ⟨g, o, none⟩) n c → g ≠ w.heap.size) := hide (fun g o n c e => by have := hv g o n c e; have := RX5.out.lt; omega)
            have HB7 := hide (HB5.out.trans (hb.mono HB5.out.size))
            have RX7 := hide (RX5.out.step hb)
            have GX7 := hide (GX5.out.step hb)
            have IC7 := hide (IC5.out.below hb)
            clear hi hv hb
            rw [PL.out] at RV
            have d0 := RX7.out.cell0
            have d1 := RX7.out.cell1
            have f0 := RX7.out.free 0
            have f1 := RX7.out.free 1
            have e0 := GX7.out.cell0
            have e1 := GX7.out.cell1
            go_upto_region 9 with fail
            go_region
            all_goals (go_wp2; refine ret_rl rfl w.heap.size _ _ rfl ((Box2.set0 (W := w7) RX7.out _).set1 _) rfl ?_; exact ⟨_, _, rfl, rints_off RV.out RX7.out (by simp) (by simp) VB.out _ _, IC7.out.keep (keeps2 RX7.out (by simp) (by simp) _ _), Below.drew ((HB7.out.setCell (p := ⟨w.heap.size, 0, none⟩) (Nat.le_refl _) _).setCell (p := ⟨w.heap.size, 1, none⟩) (Nat.le_refl _) _)⟩)
          · exact absurd (overE_zero xs.length fun i hi => CD.out i hi) (by rw [h20]; decide)
        · have CE : Hid ((gcdTo xs xs.length : Int) = contS xs) := hide (by unfold contS; rw [if_neg (by rw [LE.out]; exact hneg)])
          have IC5 := hide (IG.out.below HR.out)
          rw [CE.out] at IC5
          have HB5 := hide (HB.out.trans (HR.out.mono HB.out.size))
          have RX5 := hide (RX.out.step HR.out)
          have GX5 := hide (GX.out.step HR.out)
          have e0 := GX5.out.cell0
          have e1 := GX5.out.cell1
          go_wp2_with fail
          clear e0 e1
          refine (r4over_any _ _ xs (contS xs) K _ (H0.out.below HB5.out) IC5.out CN.out hm S1.out SC.out hK).mono ?_
          rintro e w7 hov
          rcases hov with ⟨_, v, rfl, hi, hv, hb⟩ | ⟨h20, _, _⟩
          · have RV := hide hi
            have VB : Hid (∀ g o n c, v = .slice (some ⟨g, o, none⟩) n c → g ≠ w.heap.size) := hide (fun g o n c e => by have := hv g o n c e; have := RX5.out.lt; omega)
            have HB7 := hide (HB5.out.trans (hb.mono HB5.out.size))
            have RX7 := hide (RX5.out.step hb)
            have GX7 := hide (GX5.out.step hb)
            have IC7 := hide (IC5.out.below hb)
            clear hi hv hb
            rw [PL.out] at RV
            have d0 := RX7.out.cell0
            have d1 := RX7.out.cell1
            have f0 := RX7.out.free 0
            have f1 := RX7.out.free 1
            have e0 := GX7.out.cell0
            have e1 := GX7.out.cell1
            go_upto_region 9 with fail
            go_region
            all_goals (go_wp2; refine ret_rl rfl w.heap.size _ _ rfl ((Box2.set0 (W := w7) RX7.out _).set1 _) rfl ?_; exact ⟨_, _, rfl, rints_off RV.out RX7.out (by simp) (by simp) VB.out _ _, IC7.out.keep (keeps2 RX7.out (by simp) (by simp) _ _), Below.drew ((HB7.out.setCell (p := ⟨w.heap.size, 0, none⟩) (Nat.le_refl _) _).setCell (p := ⟨w.heap.size, 1, none⟩) (Nat.le_refl _) _)⟩)
          · exact absurd (overE_zero xs.length fun i hi => CD.out i hi) (by rw [h20]; decide)
    · have e : k = xs.length := by omega
      subst e
      have GZ := hide (gcdTo_zero xs.length HZ.out)
      have PZ : Hid (List.replicate xs.length 0 = primL xs) := hide (by unfold primL; rw [if_pos GZ.out])
      have CZ : Hid ((gcdTo xs xs.length : Int) = contS xs) := hide (by have := contS_abs xs; rw [GZ.out] at this ⊢; omega)
      have HB5 := hide (HB.out.trans (HR.out.mono HB.out.size))
      have RX5 := hide (RX.out.step HR.out)
      have GX5 := hide (GX.out.step HR.out)
      have IC5 := hide (IG.out.below HR.out)
      rw [CZ.out] at IC5
      go_upto_region 10 with fail
      refine wp_calm (fun w' => Below wr.heap.size wr w') (fun j => j != 5) 6 #[false, false, false, false, false, false] (by kernel_rfl) rfl rfl ?_
      have HF := hide ((Below.refl wr.heap.size wr).drew)
      generalize wr.drew = wrd at *
      refine Calm.take (i := 0) (v := ?_) (a' := ?_) (l' := #[true, false, false, false, false, false]) (d := some 38) rfl (by kernel_rfl) (by kernel_rfl) (by kernel_rfl) (by kernel_rfl) (fun _ _ _ h => h) HF.out rfl ?_ rfl rfl ?_ ?_
      rotate_left
      · intro w' hF; clear hF; go_simp; try rfl
      rotate_left
      · simp only [Act.put]; exact rfl
      refine Calm.take (i := 1) (v := ?_) (a' := ?_) (l' := #[true, true, false, false, false, false]) (d := some 39) rfl (by kernel_rfl) (by kernel_rfl) (by kernel_rfl) (by kernel_rfl) (fun _ _ _ h => h) HF.out rfl ?_ rfl rfl ?_ ?_
      rotate_left
      · intro w' hF; clear hF; go_simp; try rfl
      rotate_left
      · simp only [Act.put]; exact rfl
      refine Calm.take (i := 3) (v := ?_) (a' := ?_) (l' := #[true, true, false, true, false, false]) (d := some 41) rfl (by kernel_rfl) (by kernel_rfl) (by kernel_rfl) (by kernel_rfl) (fun _ _ _ h => h) HF.out rfl ?_ rfl rfl ?_ ?_
      rotate_left
      · intro w' hF; have f4 := (GX5.out.step hF).cell0; have f5 := (GX5.out.step hF).cell1; clear hF; go_simp; try rfl
      rotate_left
      · simp only [Act.put]; exact rfl
      refine Calm.one (i := 2) (l' := #[true, true, true, true, false, false]) (by kernel_rfl) rfl rfl rfl fun K hK => ?_
      go_simp
      refine (r4zero_any xs.length _ hm).mono ?_
      rintro e w7 ⟨v, rfl, i, hv, hb⟩
      have VB : Hid (∀ g o n c, v = .slice (some ⟨g, o, none⟩) n c → g ≠ w.heap.size) := hide (fun g o n c e => by have h1 := hv g o n c e; have h2 := HF.out.size; have h3 := RX5.out.lt; omega)
      rw [PZ.out] at i
      have HF' := hide (HF.out.trans ((hb).mono HF.out.size))
      have RV := hide (i)
      refine hK _ _ (fun _ => HF'.out) ?_
      clear hK K HF hb i hv
      have HF := hide HF'.out
      clear HF'
      refine Calm.take (i := 4) (v := ?_) (a' := ?_) (l' := #[true, true, true, true, true, false]) (d := some 2) rfl (by kernel_rfl) (by kernel_rfl) (by kernel_rfl) (by kernel_rfl) (fun _ _ _ h => h) HF.out rfl ?_ rfl rfl ?_ ?_
      rotate_left
      · intro w' hF; clear hF; go_simp; try rfl
      rotate_left
      · simp only [Act.put]; exact rfl
      refine Calm.one (i := 5) (l' := #[true, true, true, true, true, true]) (by kernel_rfl) rfl rfl rfl fun K hK => ?_
      have RX7 := hide (RX5.out.step HF.out)
      have d0 := RX7.out.cell0
      have d1 := RX7.out.cell1
      have f0 := RX7.out.free 0
      have f1 := RX7.out.free 1
      go_simp
      refine hK _ _ (fun h => absurd h (by decide)) ?_
      clear hK K
      refine Calm.done (by kernel_rfl) ?_
      go_wp2
      refine ret_rl rfl w.heap.size _ _ rfl ((RX7.out.set0 _).set1 _) rfl ?_
      exact ⟨_, _, rfl, rints_off RV.out RX7.out (by simp) (by simp) VB.out _ _, (IC5.out.below HF.out).keep (keeps2 RX7.out (by simp) (by simp) _ _), ((HB5.out.trans (HF.out.mono HB5.out.size)).setCell (p := ⟨w.heap.size, 0, none⟩) (Nat.le_refl _) _).setCell (p := ⟨w.heap.size, 1, none⟩) (Nat.le_refl _) _⟩
end Go.Proofs.Ytejkjdjobeabfaa
