/- swageref03.Common. -/
import Derived.Test.YtgkibmigbjjnnaaRCom
import Derived.Deep.CutRange
import Derived.Deep.Cut
namespace Go.Proofs.Ytgkibmigbjjnnaa
open Go.RowKit

theorem Try.infoRC : (Try.prog.info? 57).map (fun i => (i.zero, i.size, i.bytes)) = some (some (.agg #[.bool false, .slice none 0 0]), 2, 32) := by kernel_rfl
theorem Try.infoRI : (Try.prog.info? 57).map (·.size) = some 2 := by kernel_rfl
theorem ret_lrint {fn : Func} {R : Ending → World → Prop} {a : Act} {w : World} {k p : Tmp} (h : fn.results = #[.tmp k, .cell p 57]) (v : Value) (g : Nat) (x y : Value)
    (hk : a.tmps.getD k undef = v) (hp : a.tmps.getD p undef = .pointer (some ⟨g, 0, none⟩)) (hg : BoxR w g x y) (hd : a.defers = []) (hR : R (.returned (.tuple #[v, .agg #[x, y]])) w) : bodyPost Try.prog fn R .ret a w := by
  refine bodyPost_ret ?_ hd hR
  have hp' : a.tmps[p]?.getD undef = .pointer (some ⟨g, 0, none⟩) := by simpa using hp
  have hk' : a.tmps[k]?.getD undef = v := by simpa using hk
  simp [results, h, hp', hk', asAddr, run_loadVar_row w g 57 57 #[x, y] (0, 0) _ hg Try.underlying57 rfl Try.infoRI]
theorem rover_yes (v1 v2 : Value) (x y : Int) (w : World) (h1 : RInt w v1 x) (h2 : RInt w v2 y) (l1 : (D.lim x.natAbs).length ≤ 10000000) (l2 : (D.lim y.natAbs).length ≤ 10000000) (hy : y ≠ 0) (hd : y ∣ x) :
    Calls Try.prog 54 #[v1, v2] w fun e w' => ∃ v, e = .returned v ∧ (∃ v0 v1 : Value, v = .tuple #[v0, v1] ∧ RInt w' v0 (x / y) ∧ v1 = .bool true) ∧ Below w.heap.size w w' := by
  refine (rover_any v1 v2 x y w h1 h2 l1 l2 hy).mono ?_
  rintro e w' ⟨v, z, b, rfl, k, hz, hb⟩
  rcases hz with hz | ⟨_, rfl, rfl⟩
  · exact absurd (Int.emod_eq_zero_of_dvd hd) hz.1
  · exact ⟨_, rfl, ⟨_, _, rfl, k, rfl⟩, hb⟩
set_option maxRecDepth 100000 in
set_option maxHeartbeats 16000000 in
theorem r3com_any (v : Value) (qs : List Rat) (w : World) (h : RQL w v qs) (hs : AllSz qs) :
    Calls Try.prog 26 #[v] w fun e w' => ∃ v' u, e = .returned (.tuple #[v', u]) ∧ RInts w' v' (comQ qs) ∧ RInt w' u (lcmQ qs) ∧ Below w.heap.size w w' := by
  have HL := hide h
  have HS := hide hs
  obtain ⟨a, cap, rfl, hcap, hm, _⟩ := h
  unfold maxLen at hm
  clear hs
  obtain ⟨i0, hi0, hz0, hz1, hz2⟩ := info_parts Try.infoRC
  have TI := hide (And.intro hi0 (And.intro hz0 (And.intro hz1 hz2)))
  clear hi0 hz0 hz1 hz2
  obtain ⟨N, hN⟩ : ∃ N, qs.length = N := ⟨_, rfl⟩
  have HN := hide hN
  rw [hN] at hcap HL ⊢
  clear hN
  have R0 := BoxR.new w (.bool false) (.slice none 0 0)
  replace R0 := hide R0
  have HB := below_alloc w (.cells #[.bool false, .slice none 0 0] 57)
  replace HB := hide HB
  go_enter Try.func26, Try.ntmps26
  go_wp2_with fail
  generalize (w.alloc (.cells #[.bool false, .slice none 0 0] 57)) = w0 at *
  refine (rof_any 1 _ (by decide) (by decide)).mono ?_
  rintro e u1 ⟨v, rfl, kx, hb⟩
  obtain ⟨s1, m1, n1, c1, rfl, ky⟩ := kx.cells
  replace R0 := hide (R0.out.step (hb))
  replace HB := hide (HB.out.trans ((hb).mono HB.out.size))
  have I1 := hide (ky)
  clear hb kx ky
  have LT1 := hide R0.out.lt
  go_wp2
  have al := below_alloc u1 (.cells #[.bool s1, .slice m1 n1 c1] 57)
  replace R0 := hide (R0.out.step (al))
  replace HB := hide (HB.out.trans ((al).mono HB.out.size))
  replace I1 := hide (I1.out.below (al))
  have P1 := hide (BoxR.new u1 (.bool s1) (.slice m1 n1 c1))
  clear al
  generalize u1.alloc (.cells #[.bool s1, .slice m1 n1 c1] 57) = u1a at *
  generalize u1.heap.size = g1 at *
  have I1' : Hid (RInt u1a (.agg #[.bool s1, .slice m1 n1 c1]) (lcmQ (qs.take 0))) := hide I1.out
  clear I1
  have I1 := hide I1'.out
  clear I1'
  go_loopw [5, 6, 7] (fun iv _ _ wr => ∃ (k : Nat) (s1 : Bool) (m1 : Option Addr) (n1 c1 : Nat), k ≤ N ∧ iv = .int .i64 k ∧ Below w.heap.size w wr ∧ Hid (BoxR wr w.heap.size (.bool false) (.slice none 0 0)) ∧ Hid (BoxR wr g1 (.bool s1) (.slice m1 n1 c1)) ∧ Hid (RInt wr (.agg #[.bool s1, .slice m1 n1 c1]) (lcmQ (qs.take k)))) (fun iv _ _ _ => N - (intOf iv).toNat)
  case atStart => exact ⟨0, s1, m1, n1, c1, Nat.zero_le _, rfl, HB.out, R0, P1, I1⟩
  case round =>
    clear HB R0 P1 I1
    obtain ⟨k, s1, m1, n1, c1, hk, rfl, hb, R0, P1, I1⟩ := hrel
    have HB := hide hb
    have LQ := hide (HL.out.below hb)
    clear hb
    by_cases hlt : k < N
    · have HLT : Hid (k < qs.length) := hide (by rw [HN.out]; exact hlt)
      have ST := hide (lcmQ_take qs k HLT.out)
      obtain ⟨b, off, rfl, s2, m2, n2, c2, t2, o2, p2, d2, hc, hi⟩ := LQ.out.at HLT.out
      have C2 := hide hc
      have SQ := hide (HS.out.2 k HLT.out)
      obtain ⟨q, hq⟩ : ∃ q, qs.getD k 0 = q := ⟨_, rfl⟩
      rw [hq] at hi SQ ST
      have I2 := hide hi
      clear hq hc hi LQ
      have SD := hide (lcmQ_sz5 qs HS.out k (Nat.le_of_lt HLT.out))
      obtain ⟨D, hD⟩ : ∃ D, lcmQ (qs.take k) = D := ⟨_, rfl⟩
      rw [hD] at I1 SD ST
      clear hD
      have hltI : (k : Int) < (N : Int) := by omega
      go_wp2_with fail
      have LTW := hide P1.out.lt
      go_cut [6, 7] from 19 to 34 (fun pt0 pe0 wx => ∃ g3 s3 m3 n3 c3, pt0 = .pointer (some ⟨g3, 0, none⟩) ∧ wr.heap.size ≤ g3 ∧ BoxR wx g3 (.bool s3) (.slice m3 n3 c3) ∧ RInt wx (.agg #[.bool s3, .slice m3 n3 c3]) ((q.den : Int) / (Int.gcd D q.den : Int)) ∧ pe0 = .bool true ∧ Below wr.heap.size wr wx)
      case first =>
        refine wp_facts (fun L T wq => Below wr.heap.size wr wq ∧ T 0 = .slice (some ⟨b, off, none⟩) N cap ∧ T 5 = .int .i64 k ∧ T 4 = .pointer (some ⟨g1, 0, none⟩) ∧ (L 0 = true → T 20 = .slice (some ⟨b, off, none⟩) N cap) ∧ (L 1 = true → T 21 = .int .i64 k) ∧ (L 2 = true → T 22 = .pointer (some ⟨b, off + k * 4, none⟩)) ∧ (L 3 = true → T 23 = .pointer (some ⟨b, off + k * 4 + 2, none⟩)) ∧ (L 4 = true → T 24 = .agg #[.bool t2, .slice o2 p2 d2]) ∧ (L 5 = true → T 25 = .agg #[.bool s1, .slice m1 n1 c1]) ∧ (L 6 = true → T 26 = .slice (some ⟨b, off, none⟩) N cap) ∧ (L 7 = true → T 27 = .int .i64 k) ∧ (L 8 = true → T 28 = .pointer (some ⟨b, off + k * 4, none⟩)) ∧ (L 9 = true → T 29 = .pointer (some ⟨b, off + k * 4 + 2, none⟩)) ∧ (L 10 = true → T 30 = .agg #[.bool t2, .slice o2 p2 d2]) ∧ (L 11 = true → RInt wq (T 31) (Int.gcd D q.den : Int)) ∧ (L 12 = true → ∃ v0 v1 : Value, T 32 = .tuple #[v0, v1] ∧ RInt wq (v0) ((q.den : Int) / (Int.gcd D q.den : Int)) ∧ v1 = .bool true) ∧ (L 13 = true → ∃ v0 v1 : Value, T 19 = .tuple #[v0, v1] ∧ RInt wq (v0) ((q.den : Int) / (Int.gcd D q.den : Int)) ∧ v1 = .bool true) ∧ (L 14 = true → RInt wq (T 33) ((q.den : Int) / (Int.gcd D q.den : Int))) ∧ (L 15 = true → T 34 = .bool true) ∧ (L 18 = true → T 7 = .bool true) ∧ (L 16 = true → PS wr.heap.size wq (T 6)) ∧ (L 16 = true → L 17 = false → PB wr.heap.size wq 57 (T 6) [.bool false, .slice none 0 0]) ∧ (L 17 = true → PV wr.heap.size wq 57 (T 6) (T 33))) 66 [6, 7, 19, 20, 21, 22, 23, 24, 25, 26, 27, 28, 29, 30, 31, 32, 33, 34] [0, 1, 2, 3, 4, 5, 6, 7, 8, 9, 10, 11, 12, 13, 14, 15, 16, 17, 18] (by kernel_rfl) (by kernel_rfl) (by kernel_rfl) (by kernel_rfl) ?_ ?_ ?_
        · exact ⟨(Below.refl wr.heap.size wr).drew, rfl, rfl, rfl, no_yet, no_yet, no_yet, no_yet, no_yet, no_yet, no_yet, no_yet, no_yet, no_yet, no_yet, no_yet, no_yet, no_yet, no_yet, no_yet, no_yet, no_yet, no_yet, no_yet⟩
        · intro i hi
          match i, hi with
          | 0, _ =>
            refine StepAt.of (need := []) (later := []) (k := 6) (d := some 20) rfl rfl (by kernel_rfl) (by kernel_rfl) ?_
            intro L T wq ev a he hL hN hM hJ next hnext
            have e0 := (he.tmp 0).trans hJ.2.1
            go_simp
            exact hnext _ _ ⟨hJ.1, hJ.2.1, hJ.2.2.1, hJ.2.2.2.1, fun _ => rfl, hJ.2.2.2.2.2.1, hJ.2.2.2.2.2.2.1, hJ.2.2.2.2.2.2.2.1, hJ.2.2.2.2.2.2.2.2.1, hJ.2.2.2.2.2.2.2.2.2.1, hJ.2.2.2.2.2.2.2.2.2.2.1, hJ.2.2.2.2.2.2.2.2.2.2.2.1, hJ.2.2.2.2.2.2.2.2.2.2.2.2.1, hJ.2.2.2.2.2.2.2.2.2.2.2.2.2.1, hJ.2.2.2.2.2.2.2.2.2.2.2.2.2.2.1, hJ.2.2.2.2.2.2.2.2.2.2.2.2.2.2.2.1, hJ.2.2.2.2.2.2.2.2.2.2.2.2.2.2.2.2.1, hJ.2.2.2.2.2.2.2.2.2.2.2.2.2.2.2.2.2.1, hJ.2.2.2.2.2.2.2.2.2.2.2.2.2.2.2.2.2.2.1, hJ.2.2.2.2.2.2.2.2.2.2.2.2.2.2.2.2.2.2.2.1, hJ.2.2.2.2.2.2.2.2.2.2.2.2.2.2.2.2.2.2.2.2.1, hJ.2.2.2.2.2.2.2.2.2.2.2.2.2.2.2.2.2.2.2.2.2.1, hJ.2.2.2.2.2.2.2.2.2.2.2.2.2.2.2.2.2.2.2.2.2.2.1, hJ.2.2.2.2.2.2.2.2.2.2.2.2.2.2.2.2.2.2.2.2.2.2.2⟩
          | 1, _ =>
            refine StepAt.of (need := []) (later := []) (k := 6) (d := some 21) rfl rfl (by kernel_rfl) (by kernel_rfl) ?_
            intro L T wq ev a he hL hN hM hJ next hnext
            have e5 := (he.tmp 5).trans hJ.2.2.1
            go_simp
            exact hnext _ _ ⟨hJ.1, hJ.2.1, hJ.2.2.1, hJ.2.2.2.1, hJ.2.2.2.2.1, fun _ => rfl, hJ.2.2.2.2.2.2.1, hJ.2.2.2.2.2.2.2.1, hJ.2.2.2.2.2.2.2.2.1, hJ.2.2.2.2.2.2.2.2.2.1, hJ.2.2.2.2.2.2.2.2.2.2.1, hJ.2.2.2.2.2.2.2.2.2.2.2.1, hJ.2.2.2.2.2.2.2.2.2.2.2.2.1, hJ.2.2.2.2.2.2.2.2.2.2.2.2.2.1, hJ.2.2.2.2.2.2.2.2.2.2.2.2.2.2.1, hJ.2.2.2.2.2.2.2.2.2.2.2.2.2.2.2.1, hJ.2.2.2.2.2.2.2.2.2.2.2.2.2.2.2.2.1, hJ.2.2.2.2.2.2.2.2.2.2.2.2.2.2.2.2.2.1, hJ.2.2.2.2.2.2.2.2.2.2.2.2.2.2.2.2.2.2.1, hJ.2.2.2.2.2.2.2.2.2.2.2.2.2.2.2.2.2.2.2.1, hJ.2.2.2.2.2.2.2.2.2.2.2.2.2.2.2.2.2.2.2.2.1, hJ.2.2.2.2.2.2.2.2.2.2.2.2.2.2.2.2.2.2.2.2.2.1, hJ.2.2.2.2.2.2.2.2.2.2.2.2.2.2.2.2.2.2.2.2.2.2.1, hJ.2.2.2.2.2.2.2.2.2.2.2.2.2.2.2.2.2.2.2.2.2.2.2⟩
          | 2, _ =>
            refine StepAt.of (need := [0, 1]) (later := []) (k := 6) (d := some 22) rfl rfl (by kernel_rfl) (by kernel_rfl) ?_
            intro L T wq ev a he hL hN hM hJ next hnext
            have e20 := (he.tmp 20).trans (hJ.2.2.2.2.1 (hN.1))
            have e21 := (he.tmp 21).trans (hJ.2.2.2.2.2.1 (hN.2.1))
            go_simp
            exact hnext _ _ ⟨hJ.1, hJ.2.1, hJ.2.2.1, hJ.2.2.2.1, hJ.2.2.2.2.1, hJ.2.2.2.2.2.1, fun _ => rfl, hJ.2.2.2.2.2.2.2.1, hJ.2.2.2.2.2.2.2.2.1, hJ.2.2.2.2.2.2.2.2.2.1, hJ.2.2.2.2.2.2.2.2.2.2.1, hJ.2.2.2.2.2.2.2.2.2.2.2.1, hJ.2.2.2.2.2.2.2.2.2.2.2.2.1, hJ.2.2.2.2.2.2.2.2.2.2.2.2.2.1, hJ.2.2.2.2.2.2.2.2.2.2.2.2.2.2.1, hJ.2.2.2.2.2.2.2.2.2.2.2.2.2.2.2.1, hJ.2.2.2.2.2.2.2.2.2.2.2.2.2.2.2.2.1, hJ.2.2.2.2.2.2.2.2.2.2.2.2.2.2.2.2.2.1, hJ.2.2.2.2.2.2.2.2.2.2.2.2.2.2.2.2.2.2.1, hJ.2.2.2.2.2.2.2.2.2.2.2.2.2.2.2.2.2.2.2.1, hJ.2.2.2.2.2.2.2.2.2.2.2.2.2.2.2.2.2.2.2.2.1, hJ.2.2.2.2.2.2.2.2.2.2.2.2.2.2.2.2.2.2.2.2.2.1, hJ.2.2.2.2.2.2.2.2.2.2.2.2.2.2.2.2.2.2.2.2.2.2.1, hJ.2.2.2.2.2.2.2.2.2.2.2.2.2.2.2.2.2.2.2.2.2.2.2⟩
          | 3, _ =>
            refine StepAt.of (need := [2]) (later := []) (k := 6) (d := some 23) rfl rfl (by kernel_rfl) (by kernel_rfl) ?_
            intro L T wq ev a he hL hN hM hJ next hnext
            have e22 := (he.tmp 22).trans (hJ.2.2.2.2.2.2.1 (hN.1))
            go_simp
            exact hnext _ _ ⟨hJ.1, hJ.2.1, hJ.2.2.1, hJ.2.2.2.1, hJ.2.2.2.2.1, hJ.2.2.2.2.2.1, hJ.2.2.2.2.2.2.1, fun _ => rfl, hJ.2.2.2.2.2.2.2.2.1, hJ.2.2.2.2.2.2.2.2.2.1, hJ.2.2.2.2.2.2.2.2.2.2.1, hJ.2.2.2.2.2.2.2.2.2.2.2.1, hJ.2.2.2.2.2.2.2.2.2.2.2.2.1, hJ.2.2.2.2.2.2.2.2.2.2.2.2.2.1, hJ.2.2.2.2.2.2.2.2.2.2.2.2.2.2.1, hJ.2.2.2.2.2.2.2.2.2.2.2.2.2.2.2.1, hJ.2.2.2.2.2.2.2.2.2.2.2.2.2.2.2.2.1, hJ.2.2.2.2.2.2.2.2.2.2.2.2.2.2.2.2.2.1, hJ.2.2.2.2.2.2.2.2.2.2.2.2.2.2.2.2.2.2.1, hJ.2.2.2.2.2.2.2.2.2.2.2.2.2.2.2.2.2.2.2.1, hJ.2.2.2.2.2.2.2.2.2.2.2.2.2.2.2.2.2.2.2.2.1, hJ.2.2.2.2.2.2.2.2.2.2.2.2.2.2.2.2.2.2.2.2.2.1, hJ.2.2.2.2.2.2.2.2.2.2.2.2.2.2.2.2.2.2.2.2.2.2.1, hJ.2.2.2.2.2.2.2.2.2.2.2.2.2.2.2.2.2.2.2.2.2.2.2⟩
          | 4, _ =>
            refine StepAt.of (need := [3]) (later := []) (k := 6) (d := some 24) rfl rfl (by kernel_rfl) (by kernel_rfl) ?_
            intro L T wq ev a he hL hN hM hJ next hnext
            have e23 := (he.tmp 23).trans (hJ.2.2.2.2.2.2.2.1 (hN.1))
            have hcl2 := ((C2.out).step hJ.1).cell2
            have hcl3 := ((C2.out).step hJ.1).cell3
            go_simp
            exact hnext _ _ ⟨hJ.1, hJ.2.1, hJ.2.2.1, hJ.2.2.2.1, hJ.2.2.2.2.1, hJ.2.2.2.2.2.1, hJ.2.2.2.2.2.2.1, hJ.2.2.2.2.2.2.2.1, fun _ => rfl, hJ.2.2.2.2.2.2.2.2.2.1, hJ.2.2.2.2.2.2.2.2.2.2.1, hJ.2.2.2.2.2.2.2.2.2.2.2.1, hJ.2.2.2.2.2.2.2.2.2.2.2.2.1, hJ.2.2.2.2.2.2.2.2.2.2.2.2.2.1, hJ.2.2.2.2.2.2.2.2.2.2.2.2.2.2.1, hJ.2.2.2.2.2.2.2.2.2.2.2.2.2.2.2.1, hJ.2.2.2.2.2.2.2.2.2.2.2.2.2.2.2.2.1, hJ.2.2.2.2.2.2.2.2.2.2.2.2.2.2.2.2.2.1, hJ.2.2.2.2.2.2.2.2.2.2.2.2.2.2.2.2.2.2.1, hJ.2.2.2.2.2.2.2.2.2.2.2.2.2.2.2.2.2.2.2.1, hJ.2.2.2.2.2.2.2.2.2.2.2.2.2.2.2.2.2.2.2.2.1, hJ.2.2.2.2.2.2.2.2.2.2.2.2.2.2.2.2.2.2.2.2.2.1, hJ.2.2.2.2.2.2.2.2.2.2.2.2.2.2.2.2.2.2.2.2.2.2.1, hJ.2.2.2.2.2.2.2.2.2.2.2.2.2.2.2.2.2.2.2.2.2.2.2⟩
          | 5, _ =>
            refine StepAt.of (need := []) (later := []) (k := 6) (d := some 25) rfl rfl (by kernel_rfl) (by kernel_rfl) ?_
            intro L T wq ev a he hL hN hM hJ next hnext
            have e4 := (he.tmp 4).trans hJ.2.2.2.1
            have hcl0 := ((P1.out).step hJ.1).cell0
            have hcl1 := ((P1.out).step hJ.1).cell1
            go_simp
            exact hnext _ _ ⟨hJ.1, hJ.2.1, hJ.2.2.1, hJ.2.2.2.1, hJ.2.2.2.2.1, hJ.2.2.2.2.2.1, hJ.2.2.2.2.2.2.1, hJ.2.2.2.2.2.2.2.1, hJ.2.2.2.2.2.2.2.2.1, fun _ => rfl, hJ.2.2.2.2.2.2.2.2.2.2.1, hJ.2.2.2.2.2.2.2.2.2.2.2.1, hJ.2.2.2.2.2.2.2.2.2.2.2.2.1, hJ.2.2.2.2.2.2.2.2.2.2.2.2.2.1, hJ.2.2.2.2.2.2.2.2.2.2.2.2.2.2.1, hJ.2.2.2.2.2.2.2.2.2.2.2.2.2.2.2.1, hJ.2.2.2.2.2.2.2.2.2.2.2.2.2.2.2.2.1, hJ.2.2.2.2.2.2.2.2.2.2.2.2.2.2.2.2.2.1, hJ.2.2.2.2.2.2.2.2.2.2.2.2.2.2.2.2.2.2.1, hJ.2.2.2.2.2.2.2.2.2.2.2.2.2.2.2.2.2.2.2.1, hJ.2.2.2.2.2.2.2.2.2.2.2.2.2.2.2.2.2.2.2.2.1, hJ.2.2.2.2.2.2.2.2.2.2.2.2.2.2.2.2.2.2.2.2.2.1, hJ.2.2.2.2.2.2.2.2.2.2.2.2.2.2.2.2.2.2.2.2.2.2.1, hJ.2.2.2.2.2.2.2.2.2.2.2.2.2.2.2.2.2.2.2.2.2.2.2⟩
          | 6, _ =>
            refine StepAt.of (need := []) (later := []) (k := 6) (d := some 26) rfl rfl (by kernel_rfl) (by kernel_rfl) ?_
            intro L T wq ev a he hL hN hM hJ next hnext
            have e0 := (he.tmp 0).trans hJ.2.1
            go_simp
            exact hnext _ _ ⟨hJ.1, hJ.2.1, hJ.2.2.1, hJ.2.2.2.1, hJ.2.2.2.2.1, hJ.2.2.2.2.2.1, hJ.2.2.2.2.2.2.1, hJ.2.2.2.2.2.2.2.1, hJ.2.2.2.2.2.2.2.2.1, hJ.2.2.2.2.2.2.2.2.2.1, fun _ => rfl, hJ.2.2.2.2.2.2.2.2.2.2.2.1, hJ.2.2.2.2.2.2.2.2.2.2.2.2.1, hJ.2.2.2.2.2.2.2.2.2.2.2.2.2.1, hJ.2.2.2.2.2.2.2.2.2.2.2.2.2.2.1, hJ.2.2.2.2.2.2.2.2.2.2.2.2.2.2.2.1, hJ.2.2.2.2.2.2.2.2.2.2.2.2.2.2.2.2.1, hJ.2.2.2.2.2.2.2.2.2.2.2.2.2.2.2.2.2.1, hJ.2.2.2.2.2.2.2.2.2.2.2.2.2.2.2.2.2.2.1, hJ.2.2.2.2.2.2.2.2.2.2.2.2.2.2.2.2.2.2.2.1, hJ.2.2.2.2.2.2.2.2.2.2.2.2.2.2.2.2.2.2.2.2.1, hJ.2.2.2.2.2.2.2.2.2.2.2.2.2.2.2.2.2.2.2.2.2.1, hJ.2.2.2.2.2.2.2.2.2.2.2.2.2.2.2.2.2.2.2.2.2.2.1, hJ.2.2.2.2.2.2.2.2.2.2.2.2.2.2.2.2.2.2.2.2.2.2.2⟩
          | 7, _ =>
            refine StepAt.of (need := []) (later := []) (k := 6) (d := some 27) rfl rfl (by kernel_rfl) (by kernel_rfl) ?_
            intro L T wq ev a he hL hN hM hJ next hnext
            have e5 := (he.tmp 5).trans hJ.2.2.1
            go_simp
            exact hnext _ _ ⟨hJ.1, hJ.2.1, hJ.2.2.1, hJ.2.2.2.1, hJ.2.2.2.2.1, hJ.2.2.2.2.2.1, hJ.2.2.2.2.2.2.1, hJ.2.2.2.2.2.2.2.1, hJ.2.2.2.2.2.2.2.2.1, hJ.2.2.2.2.2.2.2.2.2.1, hJ.2.2.2.2.2.2.2.2.2.2.1, fun _ => rfl, hJ.2.2.2.2.2.2.2.2.2.2.2.2.1, hJ.2.2.2.2.2.2.2.2.2.2.2.2.2.1, hJ.2.2.2.2.2.2.2.2.2.2.2.2.2.2.1, hJ.2.2.2.2.2.2.2.2.2.2.2.2.2.2.2.1, hJ.2.2.2.2.2.2.2.2.2.2.2.2.2.2.2.2.1, hJ.2.2.2.2.2.2.2.2.2.2.2.2.2.2.2.2.2.1, hJ.2.2.2.2.2.2.2.2.2.2.2.2.2.2.2.2.2.2.1, hJ.2.2.2.2.2.2.2.2.2.2.2.2.2.2.2.2.2.2.2.1, hJ.2.2.2.2.2.2.2.2.2.2.2.2.2.2.2.2.2.2.2.2.1, hJ.2.2.2.2.2.2.2.2.2.2.2.2.2.2.2.2.2.2.2.2.2.1, hJ.2.2.2.2.2.2.2.2.2.2.2.2.2.2.2.2.2.2.2.2.2.2.1, hJ.2.2.2.2.2.2.2.2.2.2.2.2.2.2.2.2.2.2.2.2.2.2.2⟩
          | 8, _ =>
            refine StepAt.of (need := [6, 7]) (later := []) (k := 6) (d := some 28) rfl rfl (by kernel_rfl) (by kernel_rfl) ?_
            intro L T wq ev a he hL hN hM hJ next hnext
            have e26 := (he.tmp 26).trans (hJ.2.2.2.2.2.2.2.2.2.2.1 (hN.1))
            have e27 := (he.tmp 27).trans (hJ.2.2.2.2.2.2.2.2.2.2.2.1 (hN.2.1))
            go_simp
            exact hnext _ _ ⟨hJ.1, hJ.2.1, hJ.2.2.1, hJ.2.2.2.1, hJ.2.2.2.2.1, hJ.2.2.2.2.2.1, hJ.2.2.2.2.2.2.1, hJ.2.2.2.2.2.2.2.1, hJ.2.2.2.2.2.2.2.2.1, hJ.2.2.2.2.2.2.2.2.2.1, hJ.2.2.2.2.2.2.2.2.2.2.1, hJ.2.2.2.2.2.2.2.2.2.2.2.1, fun _ => rfl, hJ.2.2.2.2.2.2.2.2.2.2.2.2.2.1, hJ.2.2.2.2.2.2.2.2.2.2.2.2.2.2.1, hJ.2.2.2.2.2.2.2.2.2.2.2.2.2.2.2.1, hJ.2.2.2.2.2.2.2.2.2.2.2.2.2.2.2.2.1, hJ.2.2.2.2.2.2.2.2.2.2.2.2.2.2.2.2.2.1, hJ.2.2.2.2.2.2.2.2.2.2.2.2.2.2.2.2.2.2.1, hJ.2.2.2.2.2.2.2.2.2.2.2.2.2.2.2.2.2.2.2.1, hJ.2.2.2.2.2.2.2.2.2.2.2.2.2.2.2.2.2.2.2.2.1, hJ.2.2.2.2.2.2.2.2.2.2.2.2.2.2.2.2.2.2.2.2.2.1, hJ.2.2.2.2.2.2.2.2.2.2.2.2.2.2.2.2.2.2.2.2.2.2.1, hJ.2.2.2.2.2.2.2.2.2.2.2.2.2.2.2.2.2.2.2.2.2.2.2⟩
          | 9, _ =>
            refine StepAt.of (need := [8]) (later := []) (k := 6) (d := some 29) rfl rfl (by kernel_rfl) (by kernel_rfl) ?_
            intro L T wq ev a he hL hN hM hJ next hnext
            have e28 := (he.tmp 28).trans (hJ.2.2.2.2.2.2.2.2.2.2.2.2.1 (hN.1))
            go_simp
            exact hnext _ _ ⟨hJ.1, hJ.2.1, hJ.2.2.1, hJ.2.2.2.1, hJ.2.2.2.2.1, hJ.2.2.2.2.2.1, hJ.2.2.2.2.2.2.1, hJ.2.2.2.2.2.2.2.1, hJ.2.2.2.2.2.2.2.2.1, hJ.2.2.2.2.2.2.2.2.2.1, hJ.2.2.2.2.2.2.2.2.2.2.1, hJ.2.2.2.2.2.2.2.2.2.2.2.1, hJ.2.2.2.2.2.2.2.2.2.2.2.2.1, fun _ => rfl, hJ.2.2.2.2.2.2.2.2.2.2.2.2.2.2.1, hJ.2.2.2.2.2.2.2.2.2.2.2.2.2.2.2.1, hJ.2.2.2.2.2.2.2.2.2.2.2.2.2.2.2.2.1, hJ.2.2.2.2.2.2.2.2.2.2.2.2.2.2.2.2.2.1, hJ.2.2.2.2.2.2.2.2.2.2.2.2.2.2.2.2.2.2.1, hJ.2.2.2.2.2.2.2.2.2.2.2.2.2.2.2.2.2.2.2.1, hJ.2.2.2.2.2.2.2.2.2.2.2.2.2.2.2.2.2.2.2.2.1, hJ.2.2.2.2.2.2.2.2.2.2.2.2.2.2.2.2.2.2.2.2.2.1, hJ.2.2.2.2.2.2.2.2.2.2.2.2.2.2.2.2.2.2.2.2.2.2.1, hJ.2.2.2.2.2.2.2.2.2.2.2.2.2.2.2.2.2.2.2.2.2.2.2⟩
          | 10, _ =>
            refine StepAt.of (need := [9]) (later := []) (k := 6) (d := some 30) rfl rfl (by kernel_rfl) (by kernel_rfl) ?_
            intro L T wq ev a he hL hN hM hJ next hnext
            have e29 := (he.tmp 29).trans (hJ.2.2.2.2.2.2.2.2.2.2.2.2.2.1 (hN.1))
            have hcl2 := ((C2.out).step hJ.1).cell2
            have hcl3 := ((C2.out).step hJ.1).cell3
            go_simp
            exact hnext _ _ ⟨hJ.1, hJ.2.1, hJ.2.2.1, hJ.2.2.2.1, hJ.2.2.2.2.1, hJ.2.2.2.2.2.1, hJ.2.2.2.2.2.2.1, hJ.2.2.2.2.2.2.2.1, hJ.2.2.2.2.2.2.2.2.1, hJ.2.2.2.2.2.2.2.2.2.1, hJ.2.2.2.2.2.2.2.2.2.2.1, hJ.2.2.2.2.2.2.2.2.2.2.2.1, hJ.2.2.2.2.2.2.2.2.2.2.2.2.1, hJ.2.2.2.2.2.2.2.2.2.2.2.2.2.1, fun _ => rfl, hJ.2.2.2.2.2.2.2.2.2.2.2.2.2.2.2.1, hJ.2.2.2.2.2.2.2.2.2.2.2.2.2.2.2.2.1, hJ.2.2.2.2.2.2.2.2.2.2.2.2.2.2.2.2.2.1, hJ.2.2.2.2.2.2.2.2.2.2.2.2.2.2.2.2.2.2.1, hJ.2.2.2.2.2.2.2.2.2.2.2.2.2.2.2.2.2.2.2.1, hJ.2.2.2.2.2.2.2.2.2.2.2.2.2.2.2.2.2.2.2.2.1, hJ.2.2.2.2.2.2.2.2.2.2.2.2.2.2.2.2.2.2.2.2.2.1, hJ.2.2.2.2.2.2.2.2.2.2.2.2.2.2.2.2.2.2.2.2.2.2.1, hJ.2.2.2.2.2.2.2.2.2.2.2.2.2.2.2.2.2.2.2.2.2.2.2⟩
          | 11, _ =>
            refine StepAt.of (need := [5, 10]) (later := []) (k := 6) (d := some 31) rfl rfl (by kernel_rfl) (by kernel_rfl) ?_
            intro L T wq ev a he hL hN hM hJ next hnext
            have e25 := (he.tmp 25).trans (hJ.2.2.2.2.2.2.2.2.2.1 (hN.1))
            have e30 := (he.tmp 30).trans (hJ.2.2.2.2.2.2.2.2.2.2.2.2.2.2.1 (hN.2.1))
            have ef := he.func
            go_simp
            refine (rgcd_any _ _ D (q.den : Int) _ (I1.out.below hJ.1) (I2.out.below hJ.1).den (SzI.d7 (SD.out) (show 2 * 4000 ≤ 10000000 by decide)) (SzI.d7 (SQ.out.den) (show 2 * 300 ≤ 10000000 by decide))).mono ?_
            rintro e wq' ⟨v, rfl, i, hb⟩
            exact hnext _ _ ⟨hJ.1.trans ((hb).mono hJ.1.size), hJ.2.1, hJ.2.2.1, hJ.2.2.2.1, hJ.2.2.2.2.1, hJ.2.2.2.2.2.1, hJ.2.2.2.2.2.2.1, hJ.2.2.2.2.2.2.2.1, hJ.2.2.2.2.2.2.2.2.1, hJ.2.2.2.2.2.2.2.2.2.1, hJ.2.2.2.2.2.2.2.2.2.2.1, hJ.2.2.2.2.2.2.2.2.2.2.2.1, hJ.2.2.2.2.2.2.2.2.2.2.2.2.1, hJ.2.2.2.2.2.2.2.2.2.2.2.2.2.1, hJ.2.2.2.2.2.2.2.2.2.2.2.2.2.2.1, fun _ => i, fun h => let ⟨v0, v1, e, y0, y1⟩ := hJ.2.2.2.2.2.2.2.2.2.2.2.2.2.2.2.2.1 h; ⟨v0, v1, e, y0.below (hb), y1⟩, fun h => let ⟨v0, v1, e, y0, y1⟩ := hJ.2.2.2.2.2.2.2.2.2.2.2.2.2.2.2.2.2.1 h; ⟨v0, v1, e, y0.below (hb), y1⟩, fun h => (hJ.2.2.2.2.2.2.2.2.2.2.2.2.2.2.2.2.2.2.1 h).below (hb), hJ.2.2.2.2.2.2.2.2.2.2.2.2.2.2.2.2.2.2.2.1, hJ.2.2.2.2.2.2.2.2.2.2.2.2.2.2.2.2.2.2.2.2.1, fun h => (hJ.2.2.2.2.2.2.2.2.2.2.2.2.2.2.2.2.2.2.2.2.2.1 h).step (hb), fun h h' => (hJ.2.2.2.2.2.2.2.2.2.2.2.2.2.2.2.2.2.2.2.2.2.2.1 h h').step (hb), fun h => (hJ.2.2.2.2.2.2.2.2.2.2.2.2.2.2.2.2.2.2.2.2.2.2.2 h).step (hb)⟩
          | 12, _ =>
            refine StepAt.of (need := [4, 11]) (later := []) (k := 6) (d := some 32) rfl rfl (by kernel_rfl) (by kernel_rfl) ?_
            intro L T wq ev a he hL hN hM hJ next hnext
            have e24 := (he.tmp 24).trans (hJ.2.2.2.2.2.2.2.2.1 (hN.1))
            have e31 := he.tmp 31
            have ef := he.func
            go_simp
            refine (rover_yes _ _ (q.den : Int) (Int.gcd D q.den : Int) _ (I2.out.below hJ.1).den (hJ.2.2.2.2.2.2.2.2.2.2.2.2.2.2.2.1 (hN.2.1)) (SzI.d7 (SQ.out.den) (show 2 * 300 ≤ 10000000 by decide)) (SzI.d7 (gcdQ_sz SQ.out.den D) (show 2 * 300 ≤ 10000000 by decide)) (gcdQ_ne D q) (Int.gcd_dvd_right ..)).mono ?_
            rintro e wq' ⟨v, rfl, i, hb⟩
            exact hnext _ _ ⟨hJ.1.trans ((hb).mono hJ.1.size), hJ.2.1, hJ.2.2.1, hJ.2.2.2.1, hJ.2.2.2.2.1, hJ.2.2.2.2.2.1, hJ.2.2.2.2.2.2.1, hJ.2.2.2.2.2.2.2.1, hJ.2.2.2.2.2.2.2.2.1, hJ.2.2.2.2.2.2.2.2.2.1, hJ.2.2.2.2.2.2.2.2.2.2.1, hJ.2.2.2.2.2.2.2.2.2.2.2.1, hJ.2.2.2.2.2.2.2.2.2.2.2.2.1, hJ.2.2.2.2.2.2.2.2.2.2.2.2.2.1, hJ.2.2.2.2.2.2.2.2.2.2.2.2.2.2.1, fun h => (hJ.2.2.2.2.2.2.2.2.2.2.2.2.2.2.2.1 h).below (hb), fun _ => i, fun h => let ⟨v0, v1, e, y0, y1⟩ := hJ.2.2.2.2.2.2.2.2.2.2.2.2.2.2.2.2.2.1 h; ⟨v0, v1, e, y0.below (hb), y1⟩, fun h => (hJ.2.2.2.2.2.2.2.2.2.2.2.2.2.2.2.2.2.2.1 h).below (hb), hJ.2.2.2.2.2.2.2.2.2.2.2.2.2.2.2.2.2.2.2.1, hJ.2.2.2.2.2.2.2.2.2.2.2.2.2.2.2.2.2.2.2.2.1, fun h => (hJ.2.2.2.2.2.2.2.2.2.2.2.2.2.2.2.2.2.2.2.2.2.1 h).step (hb), fun h h' => (hJ.2.2.2.2.2.2.2.2.2.2.2.2.2.2.2.2.2.2.2.2.2.2.1 h h').step (hb), fun h => (hJ.2.2.2.2.2.2.2.2.2.2.2.2.2.2.2.2.2.2.2.2.2.2.2 h).step (hb)⟩
          | 13, _ =>
            refine StepAt.of (need := [12]) (later := []) (k := 6) (d := some 19) rfl rfl (by kernel_rfl) (by kernel_rfl) ?_
            intro L T wq ev a he hL hN hM hJ next hnext
            have e32 := he.tmp 32
            go_simp
            exact hnext _ _ ⟨hJ.1, hJ.2.1, hJ.2.2.1, hJ.2.2.2.1, hJ.2.2.2.2.1, hJ.2.2.2.2.2.1, hJ.2.2.2.2.2.2.1, hJ.2.2.2.2.2.2.2.1, hJ.2.2.2.2.2.2.2.2.1, hJ.2.2.2.2.2.2.2.2.2.1, hJ.2.2.2.2.2.2.2.2.2.2.1, hJ.2.2.2.2.2.2.2.2.2.2.2.1, hJ.2.2.2.2.2.2.2.2.2.2.2.2.1, hJ.2.2.2.2.2.2.2.2.2.2.2.2.2.1, hJ.2.2.2.2.2.2.2.2.2.2.2.2.2.2.1, hJ.2.2.2.2.2.2.2.2.2.2.2.2.2.2.2.1, hJ.2.2.2.2.2.2.2.2.2.2.2.2.2.2.2.2.1, fun _ => hJ.2.2.2.2.2.2.2.2.2.2.2.2.2.2.2.2.1 (hN.1), hJ.2.2.2.2.2.2.2.2.2.2.2.2.2.2.2.2.2.2.1, hJ.2.2.2.2.2.2.2.2.2.2.2.2.2.2.2.2.2.2.2.1, hJ.2.2.2.2.2.2.2.2.2.2.2.2.2.2.2.2.2.2.2.2.1, hJ.2.2.2.2.2.2.2.2.2.2.2.2.2.2.2.2.2.2.2.2.2.1, hJ.2.2.2.2.2.2.2.2.2.2.2.2.2.2.2.2.2.2.2.2.2.2.1, hJ.2.2.2.2.2.2.2.2.2.2.2.2.2.2.2.2.2.2.2.2.2.2.2⟩
          | 14, _ =>
            refine StepAt.of (need := [13]) (later := [17]) (k := 6) (d := some 33) rfl rfl (by kernel_rfl) (by kernel_rfl) ?_
            intro L T wq ev a he hL hN hM hJ next hnext
            obtain ⟨v0, v1, hv, y0, y1⟩ := hJ.2.2.2.2.2.2.2.2.2.2.2.2.2.2.2.2.2.1 (hN.1)
            have e19 := (he.tmp 19).trans hv
            go_simp
            exact hnext _ _ ⟨hJ.1, hJ.2.1, hJ.2.2.1, hJ.2.2.2.1, hJ.2.2.2.2.1, hJ.2.2.2.2.2.1, hJ.2.2.2.2.2.2.1, hJ.2.2.2.2.2.2.2.1, hJ.2.2.2.2.2.2.2.2.1, hJ.2.2.2.2.2.2.2.2.2.1, hJ.2.2.2.2.2.2.2.2.2.2.1, hJ.2.2.2.2.2.2.2.2.2.2.2.1, hJ.2.2.2.2.2.2.2.2.2.2.2.2.1, hJ.2.2.2.2.2.2.2.2.2.2.2.2.2.1, hJ.2.2.2.2.2.2.2.2.2.2.2.2.2.2.1, hJ.2.2.2.2.2.2.2.2.2.2.2.2.2.2.2.1, hJ.2.2.2.2.2.2.2.2.2.2.2.2.2.2.2.2.1, hJ.2.2.2.2.2.2.2.2.2.2.2.2.2.2.2.2.2.1, fun _ => y0, hJ.2.2.2.2.2.2.2.2.2.2.2.2.2.2.2.2.2.2.2.1, hJ.2.2.2.2.2.2.2.2.2.2.2.2.2.2.2.2.2.2.2.2.1, hJ.2.2.2.2.2.2.2.2.2.2.2.2.2.2.2.2.2.2.2.2.2.1, hJ.2.2.2.2.2.2.2.2.2.2.2.2.2.2.2.2.2.2.2.2.2.2.1, fun h => clash (hM.1) h⟩
          | 15, _ =>
            refine StepAt.of (need := [13]) (later := []) (k := 6) (d := some 34) rfl rfl (by kernel_rfl) (by kernel_rfl) ?_
            intro L T wq ev a he hL hN hM hJ next hnext
            obtain ⟨v0, v1, hv, y0, y1⟩ := hJ.2.2.2.2.2.2.2.2.2.2.2.2.2.2.2.2.2.1 (hN.1)
            have e19 := (he.tmp 19).trans hv
            go_simp
            exact hnext _ _ ⟨hJ.1, hJ.2.1, hJ.2.2.1, hJ.2.2.2.1, hJ.2.2.2.2.1, hJ.2.2.2.2.2.1, hJ.2.2.2.2.2.2.1, hJ.2.2.2.2.2.2.2.1, hJ.2.2.2.2.2.2.2.2.1, hJ.2.2.2.2.2.2.2.2.2.1, hJ.2.2.2.2.2.2.2.2.2.2.1, hJ.2.2.2.2.2.2.2.2.2.2.2.1, hJ.2.2.2.2.2.2.2.2.2.2.2.2.1, hJ.2.2.2.2.2.2.2.2.2.2.2.2.2.1, hJ.2.2.2.2.2.2.2.2.2.2.2.2.2.2.1, hJ.2.2.2.2.2.2.2.2.2.2.2.2.2.2.2.1, hJ.2.2.2.2.2.2.2.2.2.2.2.2.2.2.2.2.1, hJ.2.2.2.2.2.2.2.2.2.2.2.2.2.2.2.2.2.1, hJ.2.2.2.2.2.2.2.2.2.2.2.2.2.2.2.2.2.2.1, fun _ => (by first | exact y1 | exact rfl), hJ.2.2.2.2.2.2.2.2.2.2.2.2.2.2.2.2.2.2.2.2.1, hJ.2.2.2.2.2.2.2.2.2.2.2.2.2.2.2.2.2.2.2.2.2.1, hJ.2.2.2.2.2.2.2.2.2.2.2.2.2.2.2.2.2.2.2.2.2.2.1, hJ.2.2.2.2.2.2.2.2.2.2.2.2.2.2.2.2.2.2.2.2.2.2.2⟩
          | 16, _ =>
            refine StepAt.of (need := []) (later := [17]) (k := 6) (d := some 6) rfl rfl (by kernel_rfl) (by kernel_rfl) ?_
            intro L T wq ev a he hL hN hM hJ next hnext
            go_simp
            have hb := below_alloc wq (.cells #[.bool false, .slice none 0 0] 57)
            exact hnext _ _ ⟨hJ.1.trans ((hb).mono hJ.1.size), hJ.2.1, hJ.2.2.1, hJ.2.2.2.1, hJ.2.2.2.2.1, hJ.2.2.2.2.2.1, hJ.2.2.2.2.2.2.1, hJ.2.2.2.2.2.2.2.1, hJ.2.2.2.2.2.2.2.2.1, hJ.2.2.2.2.2.2.2.2.2.1, hJ.2.2.2.2.2.2.2.2.2.2.1, hJ.2.2.2.2.2.2.2.2.2.2.2.1, hJ.2.2.2.2.2.2.2.2.2.2.2.2.1, hJ.2.2.2.2.2.2.2.2.2.2.2.2.2.1, hJ.2.2.2.2.2.2.2.2.2.2.2.2.2.2.1, fun h => (hJ.2.2.2.2.2.2.2.2.2.2.2.2.2.2.2.1 h).below (hb), fun h => let ⟨v0, v1, e, y0, y1⟩ := hJ.2.2.2.2.2.2.2.2.2.2.2.2.2.2.2.2.1 h; ⟨v0, v1, e, y0.below (hb), y1⟩, fun h => let ⟨v0, v1, e, y0, y1⟩ := hJ.2.2.2.2.2.2.2.2.2.2.2.2.2.2.2.2.2.1 h; ⟨v0, v1, e, y0.below (hb), y1⟩, fun h => (hJ.2.2.2.2.2.2.2.2.2.2.2.2.2.2.2.2.2.2.1 h).below (hb), hJ.2.2.2.2.2.2.2.2.2.2.2.2.2.2.2.2.2.2.2.1, hJ.2.2.2.2.2.2.2.2.2.2.2.2.2.2.2.2.2.2.2.2.1, fun _ => PS.new hJ.1.size _, fun _ _ => PB.new hJ.1.size _ [.bool false, .slice none 0 0], fun h => clash (hM.1) h⟩
          | 17, _ =>
            refine StepAt.of (need := [16, 14]) (later := []) (k := 6) (d := none) rfl rfl (by kernel_rfl) (by kernel_rfl) ?_
            intro L T wq ev a he hL hN hM hJ next hnext
            obtain ⟨g, hg, hge, hbx⟩ := hJ.2.2.2.2.2.2.2.2.2.2.2.2.2.2.2.2.2.2.2.2.2.2.1 (hN.1) hL
            obtain ⟨sv, mv, nv, cv, hv, iv⟩ := (hJ.2.2.2.2.2.2.2.2.2.2.2.2.2.2.2.2.2.2.1 (hN.2.1)).cells
            have e6 := (he.tmp 6).trans hg
            have e33 := (he.tmp 33).trans hv
            have hc0 := hbx.cell 0 rfl
            have hf0 := hbx.free 0
            have hc1 := hbx.cell 1 rfl
            have hf1 := hbx.free 1
            have hk := keeps_all hbx (by intro c hc z e; subst e; simp at hc) [.bool sv, .slice mv nv cv] rfl
            go_simp
            exact hnext undef _ ⟨below_all hge [.bool sv, .slice mv nv cv] 0 _ hJ.1, hJ.2.1, hJ.2.2.1, hJ.2.2.2.1, hJ.2.2.2.2.1, hJ.2.2.2.2.2.1, hJ.2.2.2.2.2.2.1, hJ.2.2.2.2.2.2.2.1, hJ.2.2.2.2.2.2.2.2.1, hJ.2.2.2.2.2.2.2.2.2.1, hJ.2.2.2.2.2.2.2.2.2.2.1, hJ.2.2.2.2.2.2.2.2.2.2.2.1, hJ.2.2.2.2.2.2.2.2.2.2.2.2.1, hJ.2.2.2.2.2.2.2.2.2.2.2.2.2.1, hJ.2.2.2.2.2.2.2.2.2.2.2.2.2.2.1, fun h => (hJ.2.2.2.2.2.2.2.2.2.2.2.2.2.2.2.1 h).keep hk, fun h => let ⟨v0, v1, e, y0, y1⟩ := hJ.2.2.2.2.2.2.2.2.2.2.2.2.2.2.2.2.1 h; ⟨v0, v1, e, y0.keep hk, y1⟩, fun h => let ⟨v0, v1, e, y0, y1⟩ := hJ.2.2.2.2.2.2.2.2.2.2.2.2.2.2.2.2.2.1 h; ⟨v0, v1, e, y0.keep hk, y1⟩, fun h => (hJ.2.2.2.2.2.2.2.2.2.2.2.2.2.2.2.2.2.2.1 h).keep hk, hJ.2.2.2.2.2.2.2.2.2.2.2.2.2.2.2.2.2.2.2.1, hJ.2.2.2.2.2.2.2.2.2.2.2.2.2.2.2.2.2.2.2.2.1, fun h => (hJ.2.2.2.2.2.2.2.2.2.2.2.2.2.2.2.2.2.2.2.2.2.1 h).put [.bool sv, .slice mv nv cv], fun _ h => no_more h, fun _ => PV.set' [.bool sv, .slice mv nv cv] hg hv hbx hge rfl⟩
          | 18, _ =>
            refine StepAt.of (need := [15]) (later := []) (k := 6) (d := some 7) rfl rfl (by kernel_rfl) (by kernel_rfl) ?_
            intro L T wq ev a he hL hN hM hJ next hnext
            have e34 := he.tmp 34
            go_simp
            exact hnext _ _ ⟨hJ.1, hJ.2.1, hJ.2.2.1, hJ.2.2.2.1, hJ.2.2.2.2.1, hJ.2.2.2.2.2.1, hJ.2.2.2.2.2.2.1, hJ.2.2.2.2.2.2.2.1, hJ.2.2.2.2.2.2.2.2.1, hJ.2.2.2.2.2.2.2.2.2.1, hJ.2.2.2.2.2.2.2.2.2.2.1, hJ.2.2.2.2.2.2.2.2.2.2.2.1, hJ.2.2.2.2.2.2.2.2.2.2.2.2.1, hJ.2.2.2.2.2.2.2.2.2.2.2.2.2.1, hJ.2.2.2.2.2.2.2.2.2.2.2.2.2.2.1, hJ.2.2.2.2.2.2.2.2.2.2.2.2.2.2.2.1, hJ.2.2.2.2.2.2.2.2.2.2.2.2.2.2.2.2.1, hJ.2.2.2.2.2.2.2.2.2.2.2.2.2.2.2.2.2.1, hJ.2.2.2.2.2.2.2.2.2.2.2.2.2.2.2.2.2.2.1, hJ.2.2.2.2.2.2.2.2.2.2.2.2.2.2.2.2.2.2.2.1, fun _ => hJ.2.2.2.2.2.2.2.2.2.2.2.2.2.2.2.2.2.2.2.1 (hN.1), hJ.2.2.2.2.2.2.2.2.2.2.2.2.2.2.2.2.2.2.2.2.2.1, hJ.2.2.2.2.2.2.2.2.2.2.2.2.2.2.2.2.2.2.2.2.2.2.1, hJ.2.2.2.2.2.2.2.2.2.2.2.2.2.2.2.2.2.2.2.2.2.2.2⟩
          | k + 19, hi => exact absurd hi (Nat.not_lt.2 (Nat.le_add_left 19 k))
        · intro L a wq hA hJ hs hd hf
          obtain ⟨g3, cs0, hp0, hge0, hv0, hb0⟩ := hJ.2.2.2.2.2.2.2.2.2.2.2.2.2.2.2.2.2.2.2.2.2.2.2 (hA.2.2.2.2.2.2.2.2.2.2.2.2.2.2.2.2.2.1)
          have i0 := hJ.2.2.2.2.2.2.2.2.2.2.2.2.2.2.2.2.2.2.1 (hA.2.2.2.2.2.2.2.2.2.2.2.2.2.2.1)
          obtain ⟨s3, m3, n3, c3, hq0, i0⟩ := i0.cells
          rw [hq0, Value.agg.injEq] at hv0
          have hl0 : cs0 = _ := congrArg Array.toList hv0.symm
          subst hl0
          refine (by assumption : ∀ a' w', Met _ a' w' → _) _ _ (Met.intro ((by assumption : ∀ a' w', _ → _) _ _ ?_))
          exact ⟨a.tmps.getD 6 undef, a.tmps.getD 7 undef, a.tmps.getD 19 undef, a.tmps.getD 20 undef, a.tmps.getD 21 undef, a.tmps.getD 22 undef, a.tmps.getD 23 undef, a.tmps.getD 24 undef, a.tmps.getD 25 undef, a.tmps.getD 26 undef, a.tmps.getD 27 undef, a.tmps.getD 28 undef, a.tmps.getD 29 undef, a.tmps.getD 30 undef, a.tmps.getD 31 undef, a.tmps.getD 32 undef, a.tmps.getD 33 undef, a.tmps.getD 34 undef, ⟨g3, s3, m3, n3, c3, hp0, hge0, hb0, i0, hJ.2.2.2.2.2.2.2.2.2.2.2.2.2.2.2.2.2.2.2.2.1 (hA.2.2.2.2.2.2.2.2.2.2.2.2.2.2.2.2.2.2.1), hJ.1⟩, act_eq _ _ [6, 7, 19, 20, 21, 22, 23, 24, 25, 26, 27, 28, 29, 30, 31, 32, 33, 34] hf (by kernel_rfl) (hs.trans (by kernel_rfl)) hd (by kernel_rfl)⟩
      case rest =>
      obtain ⟨g3, s3, m3, n3, c3, rfl, hge0, hbx0, hi0, rfl, hb⟩ := hcut
      replace HB := hide (HB.out.trans ((hb).mono HB.out.size))
      replace R0 := hide (R0.out.step (hb))
      replace P1 := hide (P1.out.step (hb))
      replace I1 := hide (I1.out.below (hb))
      replace I2 := hide (I2.out.below (hb))
      replace C2 := hide (C2.out.step (hb))
      have V3 := hide hbx0
      have I3 := hide hi0
      have LT3 : Hid (g1 < g3) := hide (Nat.lt_of_lt_of_le LTW.out hge0)
      clear hb hge0 hbx0 hi0
      generalize hwc : wc = wd at *
      clear hwc
      have hP10 := P1.out.cell0
      have hP11 := P1.out.cell1
      have hV30 := V3.out.cell0
      have hV31 := V3.out.cell1
      go_wp2_with fail
      clear hP10 hP11
      clear hV30 hV31
      refine (rmul2_any _ _ D ((q.den : Int) / (Int.gcd D q.den : Int)) _ I1.out I3.out (SzI.dlen (SD.out) (show 2 * 4000 ≤ 100000000 by decide)) (SzI.dlen (SQ.out.den.quoQ _) (show 2 * 300 ≤ 100000000 by decide))).mono ?_
      rintro e u2 ⟨v, rfl, kx, hb⟩
      obtain ⟨s4, m4, n4, c4, rfl, ky⟩ := kx.cells
      replace HB := hide (HB.out.trans ((hb).mono HB.out.size))
      replace R0 := hide (R0.out.step (hb))
      replace P1 := hide (P1.out.step (hb))
      replace I1 := hide (I1.out.below (hb))
      replace I2 := hide (I2.out.below (hb))
      replace C2 := hide (C2.out.step (hb))
      replace V3 := hide (V3.out.step (hb))
      replace I3 := hide (I3.out.below (hb))
      have I4 := hide (ky)
      clear hb kx ky
      have hP10 := P1.out.cell0
      have hP11 := P1.out.cell1
      have fP10 := P1.out.free 0
      have fP11 := P1.out.free 1
      go_wp2
      go_roundw
      case rel => exact ⟨k + 1, s4, m4, n4, c4, by omega, by go_num, below_put HB.out (by have hx := LT1.out; omega) _ _, hide (R0.out.other (by have hx := LT1.out; omega) _ _), hide (P1.out.put _ _), hide (by rw [ST.out]; exact I4.out.keep (P1.out.keeps (by simp) (by simp) _ _))⟩
      case measure => simp [intOf]; omega
    · have e : k = N := by omega
      subst e
      obtain ⟨wl, hwl⟩ : ∃ wl, wl = wr := ⟨_, rfl⟩
      subst hwl
      have IA : Hid (RInt wl (.agg #[.bool s1, .slice m1 n1 c1]) (lcmQ qs)) := hide (by have hh := I1.out; rw [(show qs.take k = qs from List.take_of_length_le (by rw [HN.out]; exact Nat.le_refl _))] at hh; exact hh)
      clear I1
      have SD : Hid (SzI 4000 (lcmQ qs)) := hide (by have hh := lcmQ_sz5 qs HS.out qs.length (Nat.le_refl _); rw [List.take_length] at hh; exact hh)
      have LT2 := hide P1.out.lt
      have LT3 := hide HB.out.size
      go_wp2
      go_loopw [8, 9, 10, 11] (fun lv iv _ _ wr => ∃ j : Nat, j ≤ k ∧ iv = .int .i64 j ∧ Below wl.heap.size wl wr ∧ Hid (ListR wr wl.heap.size lv ((comQ qs).take j))) (fun _ iv _ _ _ => k - (intOf iv).toNat)
      case atStart => exact ⟨0, Nat.zero_le _, rfl, Below.refl _ _, hide (ListR.nil _ _)⟩
      case round =>
        obtain ⟨j, hj, rfl, hb, LA⟩ := hrel
        have HB2 := hide hb
        have P2 := hide (P1.out.step hb)
        have I2 := hide (IA.out.below hb)
        have LQ2 := hide (LQ.out.below hb)
        clear hb
        by_cases hlt : j < k
        · have HLT : Hid (j < qs.length) := hide (by rw [HN.out]; exact hlt)
          have ST := hide (comQ_take qs j HLT.out)
          have DV : Hid (((qs.getD j 0).den : Int) ∣ lcmQ qs) := hide (by have hh := lcmQ_dvd qs qs.length (Nat.le_refl _) j HLT.out; rw [List.take_length] at hh; exact hh)
          obtain ⟨b, off, rfl, s4, m4, n4, c4, t4, o4, p4, d4, hc, hi⟩ := LQ2.out.at HLT.out
          have C4 := hide hc
          have SQ := hide (HS.out.2 j HLT.out)
          obtain ⟨q, hq⟩ : ∃ q, qs.getD j 0 = q := ⟨_, rfl⟩
          rw [hq] at hi SQ ST DV
          have I4 := hide hi
          clear hq hc hi LQ2
          have TL : Hid (((comQ qs).take j).length ≤ 12) := hide (by have := HS.out.1; have := HLT.out; rw [List.length_take]; omega)
          obtain ⟨D, hD⟩ : ∃ D, lcmQ qs = D := ⟨_, rfl⟩
          rw [hD] at I2 ST DV
          have SD2 : Hid (SzI 4000 D) := hide (by rw [← hD]; exact SD.out)
          obtain ⟨T, hT⟩ : ∃ T, (comQ qs).take j = T := ⟨_, rfl⟩
          rw [hT] at LA TL ST
          clear hD hT
          have hltI : (j : Int) < (k : Int) := by omega
          have BLT := hide C4.out.lt
          go_wp2_with fail
          have LTW := hide P2.out.lt
          go_cut [10, 11] from 44 to 53 (fun pt0 pe0 wx => ∃ g5 s5 m5 n5 c5, pt0 = .pointer (some ⟨g5, 0, none⟩) ∧ wr.heap.size ≤ g5 ∧ BoxR wx g5 (.bool s5) (.slice m5 n5 c5) ∧ RInt wx (.agg #[.bool s5, .slice m5 n5 c5]) (D / (q.den : Int)) ∧ pe0 = .bool true ∧ Below wr.heap.size wr wx)
          case first =>
            refine wp_facts (fun L T wq => Below wr.heap.size wr wq ∧ T 0 = .slice (some ⟨b, off, none⟩) k cap ∧ T 9 = .int .i64 j ∧ T 4 = .pointer (some ⟨g1, 0, none⟩) ∧ (L 0 = true → T 45 = .agg #[.bool s1, .slice m1 n1 c1]) ∧ (L 1 = true → T 46 = .slice (some ⟨b, off, none⟩) k cap) ∧ (L 2 = true → T 47 = .int .i64 j) ∧ (L 3 = true → T 48 = .pointer (some ⟨b, off + j * 4, none⟩)) ∧ (L 4 = true → T 49 = .pointer (some ⟨b, off + j * 4 + 2, none⟩)) ∧ (L 5 = true → T 50 = .agg #[.bool t4, .slice o4 p4 d4]) ∧ (L 6 = true → ∃ v0 v1 : Value, T 51 = .tuple #[v0, v1] ∧ RInt wq (v0) (D / (q.den : Int)) ∧ v1 = .bool true) ∧ (L 7 = true → ∃ v0 v1 : Value, T 44 = .tuple #[v0, v1] ∧ RInt wq (v0) (D / (q.den : Int)) ∧ v1 = .bool true) ∧ (L 8 = true → RInt wq (T 52) (D / (q.den : Int))) ∧ (L 9 = true → T 53 = .bool true) ∧ (L 12 = true → T 11 = .bool true) ∧ (L 10 = true → PS wr.heap.size wq (T 10)) ∧ (L 10 = true → L 11 = false → PB wr.heap.size wq 57 (T 10) [.bool false, .slice none 0 0]) ∧ (L 11 = true → PV wr.heap.size wq 57 (T 10) (T 52))) 66 [10, 11, 44, 45, 46, 47, 48, 49, 50, 51, 52, 53] [0, 1, 2, 3, 4, 5, 6, 7, 8, 9, 10, 11, 12] (by kernel_rfl) (by kernel_rfl) (by kernel_rfl) (by kernel_rfl) ?_ ?_ ?_
            · exact ⟨(Below.refl wr.heap.size wr).drew, rfl, rfl, rfl, no_yet, no_yet, no_yet, no_yet, no_yet, no_yet, no_yet, no_yet, no_yet, no_yet, no_yet, no_yet, no_yet, no_yet⟩
            · intro i hi
              match i, hi with
              | 0, _ =>
                refine StepAt.of (need := []) (later := []) (k := 6) (d := some 45) rfl rfl (by kernel_rfl) (by kernel_rfl) ?_
                intro L T wq ev a he hL hN hM hJ next hnext
                have e4 := (he.tmp 4).trans hJ.2.2.2.1
                have hcl0 := ((P2.out).step hJ.1).cell0
                have hcl1 := ((P2.out).step hJ.1).cell1
                go_simp
                exact hnext _ _ ⟨hJ.1, hJ.2.1, hJ.2.2.1, hJ.2.2.2.1, fun _ => rfl, hJ.2.2.2.2.2.1, hJ.2.2.2.2.2.2.1, hJ.2.2.2.2.2.2.2.1, hJ.2.2.2.2.2.2.2.2.1, hJ.2.2.2.2.2.2.2.2.2.1, hJ.2.2.2.2.2.2.2.2.2.2.1, hJ.2.2.2.2.2.2.2.2.2.2.2.1, hJ.2.2.2.2.2.2.2.2.2.2.2.2.1, hJ.2.2.2.2.2.2.2.2.2.2.2.2.2.1, hJ.2.2.2.2.2.2.2.2.2.2.2.2.2.2.1, hJ.2.2.2.2.2.2.2.2.2.2.2.2.2.2.2.1, hJ.2.2.2.2.2.2.2.2.2.2.2.2.2.2.2.2.1, hJ.2.2.2.2.2.2.2.2.2.2.2.2.2.2.2.2.2⟩
              | 1, _ =>
                refine StepAt.of (need := []) (later := []) (k := 6) (d := some 46) rfl rfl (by kernel_rfl) (by kernel_rfl) ?_
                intro L T wq ev a he hL hN hM hJ next hnext
                have e0 := (he.tmp 0).trans hJ.2.1
                go_simp
                exact hnext _ _ ⟨hJ.1, hJ.2.1, hJ.2.2.1, hJ.2.2.2.1, hJ.2.2.2.2.1, fun _ => rfl, hJ.2.2.2.2.2.2.1, hJ.2.2.2.2.2.2.2.1, hJ.2.2.2.2.2.2.2.2.1, hJ.2.2.2.2.2.2.2.2.2.1, hJ.2.2.2.2.2.2.2.2.2.2.1, hJ.2.2.2.2.2.2.2.2.2.2.2.1, hJ.2.2.2.2.2.2.2.2.2.2.2.2.1, hJ.2.2.2.2.2.2.2.2.2.2.2.2.2.1, hJ.2.2.2.2.2.2.2.2.2.2.2.2.2.2.1, hJ.2.2.2.2.2.2.2.2.2.2.2.2.2.2.2.1, hJ.2.2.2.2.2.2.2.2.2.2.2.2.2.2.2.2.1, hJ.2.2.2.2.2.2.2.2.2.2.2.2.2.2.2.2.2⟩
              | 2, _ =>
                refine StepAt.of (need := []) (later := []) (k := 6) (d := some 47) rfl rfl (by kernel_rfl) (by kernel_rfl) ?_
                intro L T wq ev a he hL hN hM hJ next hnext
                have e9 := (he.tmp 9).trans hJ.2.2.1
                go_simp
                exact hnext _ _ ⟨hJ.1, hJ.2.1, hJ.2.2.1, hJ.2.2.2.1, hJ.2.2.2.2.1, hJ.2.2.2.2.2.1, fun _ => rfl, hJ.2.2.2.2.2.2.2.1, hJ.2.2.2.2.2.2.2.2.1, hJ.2.2.2.2.2.2.2.2.2.1, hJ.2.2.2.2.2.2.2.2.2.2.1, hJ.2.2.2.2.2.2.2.2.2.2.2.1, hJ.2.2.2.2.2.2.2.2.2.2.2.2.1, hJ.2.2.2.2.2.2.2.2.2.2.2.2.2.1, hJ.2.2.2.2.2.2.2.2.2.2.2.2.2.2.1, hJ.2.2.2.2.2.2.2.2.2.2.2.2.2.2.2.1, hJ.2.2.2.2.2.2.2.2.2.2.2.2.2.2.2.2.1, hJ.2.2.2.2.2.2.2.2.2.2.2.2.2.2.2.2.2⟩
              | 3, _ =>
                refine StepAt.of (need := [1, 2]) (later := []) (k := 6) (d := some 48) rfl rfl (by kernel_rfl) (by kernel_rfl) ?_
                intro L T wq ev a he hL hN hM hJ next hnext
                have e46 := (he.tmp 46).trans (hJ.2.2.2.2.2.1 (hN.1))
                have e47 := (he.tmp 47).trans (hJ.2.2.2.2.2.2.1 (hN.2.1))
                go_simp
                exact hnext _ _ ⟨hJ.1, hJ.2.1, hJ.2.2.1, hJ.2.2.2.1, hJ.2.2.2.2.1, hJ.2.2.2.2.2.1, hJ.2.2.2.2.2.2.1, fun _ => rfl, hJ.2.2.2.2.2.2.2.2.1, hJ.2.2.2.2.2.2.2.2.2.1, hJ.2.2.2.2.2.2.2.2.2.2.1, hJ.2.2.2.2.2.2.2.2.2.2.2.1, hJ.2.2.2.2.2.2.2.2.2.2.2.2.1, hJ.2.2.2.2.2.2.2.2.2.2.2.2.2.1, hJ.2.2.2.2.2.2.2.2.2.2.2.2.2.2.1, hJ.2.2.2.2.2.2.2.2.2.2.2.2.2.2.2.1, hJ.2.2.2.2.2.2.2.2.2.2.2.2.2.2.2.2.1, hJ.2.2.2.2.2.2.2.2.2.2.2.2.2.2.2.2.2⟩
              | 4, _ =>
                refine StepAt.of (need := [3]) (later := []) (k := 6) (d := some 49) rfl rfl (by kernel_rfl) (by kernel_rfl) ?_
                intro L T wq ev a he hL hN hM hJ next hnext
                have e48 := (he.tmp 48).trans (hJ.2.2.2.2.2.2.2.1 (hN.1))
                go_simp
                exact hnext _ _ ⟨hJ.1, hJ.2.1, hJ.2.2.1, hJ.2.2.2.1, hJ.2.2.2.2.1, hJ.2.2.2.2.2.1, hJ.2.2.2.2.2.2.1, hJ.2.2.2.2.2.2.2.1, fun _ => rfl, hJ.2.2.2.2.2.2.2.2.2.1, hJ.2.2.2.2.2.2.2.2.2.2.1, hJ.2.2.2.2.2.2.2.2.2.2.2.1, hJ.2.2.2.2.2.2.2.2.2.2.2.2.1, hJ.2.2.2.2.2.2.2.2.2.2.2.2.2.1, hJ.2.2.2.2.2.2.2.2.2.2.2.2.2.2.1, hJ.2.2.2.2.2.2.2.2.2.2.2.2.2.2.2.1, hJ.2.2.2.2.2.2.2.2.2.2.2.2.2.2.2.2.1, hJ.2.2.2.2.2.2.2.2.2.2.2.2.2.2.2.2.2⟩
              | 5, _ =>
                refine StepAt.of (need := [4]) (later := []) (k := 6) (d := some 50) rfl rfl (by kernel_rfl) (by kernel_rfl) ?_
                intro L T wq ev a he hL hN hM hJ next hnext
                have e49 := (he.tmp 49).trans (hJ.2.2.2.2.2.2.2.2.1 (hN.1))
                have hcl2 := ((C4.out).step hJ.1).cell2
                have hcl3 := ((C4.out).step hJ.1).cell3
                go_simp
                exact hnext _ _ ⟨hJ.1, hJ.2.1, hJ.2.2.1, hJ.2.2.2.1, hJ.2.2.2.2.1, hJ.2.2.2.2.2.1, hJ.2.2.2.2.2.2.1, hJ.2.2.2.2.2.2.2.1, hJ.2.2.2.2.2.2.2.2.1, fun _ => rfl, hJ.2.2.2.2.2.2.2.2.2.2.1, hJ.2.2.2.2.2.2.2.2.2.2.2.1, hJ.2.2.2.2.2.2.2.2.2.2.2.2.1, hJ.2.2.2.2.2.2.2.2.2.2.2.2.2.1, hJ.2.2.2.2.2.2.2.2.2.2.2.2.2.2.1, hJ.2.2.2.2.2.2.2.2.2.2.2.2.2.2.2.1, hJ.2.2.2.2.2.2.2.2.2.2.2.2.2.2.2.2.1, hJ.2.2.2.2.2.2.2.2.2.2.2.2.2.2.2.2.2⟩
              | 6, _ =>
                refine StepAt.of (need := [0, 5]) (later := []) (k := 6) (d := some 51) rfl rfl (by kernel_rfl) (by kernel_rfl) ?_
                intro L T wq ev a he hL hN hM hJ next hnext
                have e45 := (he.tmp 45).trans (hJ.2.2.2.2.1 (hN.1))
                have e50 := (he.tmp 50).trans (hJ.2.2.2.2.2.2.2.2.2.1 (hN.2.1))
                have ef := he.func
                go_simp
                refine (rover_yes _ _ D (q.den : Int) _ (I2.out.below hJ.1) (I4.out.below hJ.1).den (SzI.d7 (SD2.out) (show 2 * 4000 ≤ 10000000 by decide)) (SzI.d7 (SQ.out.den) (show 2 * 300 ≤ 10000000 by decide)) (by have := q.den_nz; omega) DV.out).mono ?_
                rintro e wq' ⟨v, rfl, i, hb⟩
                exact hnext _ _ ⟨hJ.1.trans ((hb).mono hJ.1.size), hJ.2.1, hJ.2.2.1, hJ.2.2.2.1, hJ.2.2.2.2.1, hJ.2.2.2.2.2.1, hJ.2.2.2.2.2.2.1, hJ.2.2.2.2.2.2.2.1, hJ.2.2.2.2.2.2.2.2.1, hJ.2.2.2.2.2.2.2.2.2.1, fun _ => i, fun h => let ⟨v0, v1, e, y0, y1⟩ := hJ.2.2.2.2.2.2.2.2.2.2.2.1 h; ⟨v0, v1, e, y0.below (hb), y1⟩, fun h => (hJ.2.2.2.2.2.2.2.2.2.2.2.2.1 h).below (hb), hJ.2.2.2.2.2.2.2.2.2.2.2.2.2.1, hJ.2.2.2.2.2.2.2.2.2.2.2.2.2.2.1, fun h => (hJ.2.2.2.2.2.2.2.2.2.2.2.2.2.2.2.1 h).step (hb), fun h h' => (hJ.2.2.2.2.2.2.2.2.2.2.2.2.2.2.2.2.1 h h').step (hb), fun h => (hJ.2.2.2.2.2.2.2.2.2.2.2.2.2.2.2.2.2 h).step (hb)⟩
              | 7, _ =>
                refine StepAt.of (need := [6]) (later := []) (k := 6) (d := some 44) rfl rfl (by kernel_rfl) (by kernel_rfl) ?_
                intro L T wq ev a he hL hN hM hJ next hnext
                have e51 := he.tmp 51
                go_simp
                exact hnext _ _ ⟨hJ.1, hJ.2.1, hJ.2.2.1, hJ.2.2.2.1, hJ.2.2.2.2.1, hJ.2.2.2.2.2.1, hJ.2.2.2.2.2.2.1, hJ.2.2.2.2.2.2.2.1, hJ.2.2.2.2.2.2.2.2.1, hJ.2.2.2.2.2.2.2.2.2.1, hJ.2.2.2.2.2.2.2.2.2.2.1, fun _ => hJ.2.2.2.2.2.2.2.2.2.2.1 (hN.1), hJ.2.2.2.2.2.2.2.2.2.2.2.2.1, hJ.2.2.2.2.2.2.2.2.2.2.2.2.2.1, hJ.2.2.2.2.2.2.2.2.2.2.2.2.2.2.1, hJ.2.2.2.2.2.2.2.2.2.2.2.2.2.2.2.1, hJ.2.2.2.2.2.2.2.2.2.2.2.2.2.2.2.2.1, hJ.2.2.2.2.2.2.2.2.2.2.2.2.2.2.2.2.2⟩
              | 8, _ =>
                refine StepAt.of (need := [7]) (later := [11]) (k := 6) (d := some 52) rfl rfl (by kernel_rfl) (by kernel_rfl) ?_
                intro L T wq ev a he hL hN hM hJ next hnext
                obtain ⟨v0, v1, hv, y0, y1⟩ := hJ.2.2.2.2.2.2.2.2.2.2.2.1 (hN.1)
                have e44 := (he.tmp 44).trans hv
                go_simp
                exact hnext _ _ ⟨hJ.1, hJ.2.1, hJ.2.2.1, hJ.2.2.2.1, hJ.2.2.2.2.1, hJ.2.2.2.2.2.1, hJ.2.2.2.2.2.2.1, hJ.2.2.2.2.2.2.2.1, hJ.2.2.2.2.2.2.2.2.1, hJ.2.2.2.2.2.2.2.2.2.1, hJ.2.2.2.2.2.2.2.2.2.2.1, hJ.2.2.2.2.2.2.2.2.2.2.2.1, fun _ => y0, hJ.2.2.2.2.2.2.2.2.2.2.2.2.2.1, hJ.2.2.2.2.2.2.2.2.2.2.2.2.2.2.1, hJ.2.2.2.2.2.2.2.2.2.2.2.2.2.2.2.1, hJ.2.2.2.2.2.2.2.2.2.2.2.2.2.2.2.2.1, fun h => clash (hM.1) h⟩
              | 9, _ =>
                refine StepAt.of (need := [7]) (later := []) (k := 6) (d := some 53) rfl rfl (by kernel_rfl) (by kernel_rfl) ?_
                intro L T wq ev a he hL hN hM hJ next hnext
                obtain ⟨v0, v1, hv, y0, y1⟩ := hJ.2.2.2.2.2.2.2.2.2.2.2.1 (hN.1)
                have e44 := (he.tmp 44).trans hv
                go_simp
                exact hnext _ _ ⟨hJ.1, hJ.2.1, hJ.2.2.1, hJ.2.2.2.1, hJ.2.2.2.2.1, hJ.2.2.2.2.2.1, hJ.2.2.2.2.2.2.1, hJ.2.2.2.2.2.2.2.1, hJ.2.2.2.2.2.2.2.2.1, hJ.2.2.2.2.2.2.2.2.2.1, hJ.2.2.2.2.2.2.2.2.2.2.1, hJ.2.2.2.2.2.2.2.2.2.2.2.1, hJ.2.2.2.2.2.2.2.2.2.2.2.2.1, fun _ => (by first | exact y1 | exact rfl), hJ.2.2.2.2.2.2.2.2.2.2.2.2.2.2.1, hJ.2.2.2.2.2.2.2.2.2.2.2.2.2.2.2.1, hJ.2.2.2.2.2.2.2.2.2.2.2.2.2.2.2.2.1, hJ.2.2.2.2.2.2.2.2.2.2.2.2.2.2.2.2.2⟩
              | 10, _ =>
                refine StepAt.of (need := []) (later := [11]) (k := 6) (d := some 10) rfl rfl (by kernel_rfl) (by kernel_rfl) ?_
                intro L T wq ev a he hL hN hM hJ next hnext
                go_simp
                have hb := below_alloc wq (.cells #[.bool false, .slice none 0 0] 57)
                exact hnext _ _ ⟨hJ.1.trans ((hb).mono hJ.1.size), hJ.2.1, hJ.2.2.1, hJ.2.2.2.1, hJ.2.2.2.2.1, hJ.2.2.2.2.2.1, hJ.2.2.2.2.2.2.1, hJ.2.2.2.2.2.2.2.1, hJ.2.2.2.2.2.2.2.2.1, hJ.2.2.2.2.2.2.2.2.2.1, fun h => let ⟨v0, v1, e, y0, y1⟩ := hJ.2.2.2.2.2.2.2.2.2.2.1 h; ⟨v0, v1, e, y0.below (hb), y1⟩, fun h => let ⟨v0, v1, e, y0, y1⟩ := hJ.2.2.2.2.2.2.2.2.2.2.2.1 h; ⟨v0, v1, e, y0.below (hb), y1⟩, fun h => (hJ.2.2.2.2.2.2.2.2.2.2.2.2.1 h).below (hb), hJ.2.2.2.2.2.2.2.2.2.2.2.2.2.1, hJ.2.2.2.2.2.2.2.2.2.2.2.2.2.2.1, fun _ => PS.new hJ.1.size _, fun _ _ => PB.new hJ.1.size _ [.bool false, .slice none 0 0], fun h => clash (hM.1) h⟩
              | 11, _ =>
                refine StepAt.of (need := [10, 8]) (later := []) (k := 6) (d := none) rfl rfl (by kernel_rfl) (by kernel_rfl) ?_
                intro L T wq ev a he hL hN hM hJ next hnext
                obtain ⟨g, hg, hge, hbx⟩ := hJ.2.2.2.2.2.2.2.2.2.2.2.2.2.2.2.2.1 (hN.1) hL
                obtain ⟨sv, mv, nv, cv, hv, iv⟩ := (hJ.2.2.2.2.2.2.2.2.2.2.2.2.1 (hN.2.1)).cells
                have e10 := (he.tmp 10).trans hg
                have e52 := (he.tmp 52).trans hv
                have hc0 := hbx.cell 0 rfl
                have hf0 := hbx.free 0
                have hc1 := hbx.cell 1 rfl
                have hf1 := hbx.free 1
                have hk := keeps_all hbx (by intro c hc z e; subst e; simp at hc) [.bool sv, .slice mv nv cv] rfl
                go_simp
                exact hnext undef _ ⟨below_all hge [.bool sv, .slice mv nv cv] 0 _ hJ.1, hJ.2.1, hJ.2.2.1, hJ.2.2.2.1, hJ.2.2.2.2.1, hJ.2.2.2.2.2.1, hJ.2.2.2.2.2.2.1, hJ.2.2.2.2.2.2.2.1, hJ.2.2.2.2.2.2.2.2.1, hJ.2.2.2.2.2.2.2.2.2.1, fun h => let ⟨v0, v1, e, y0, y1⟩ := hJ.2.2.2.2.2.2.2.2.2.2.1 h; ⟨v0, v1, e, y0.keep hk, y1⟩, fun h => let ⟨v0, v1, e, y0, y1⟩ := hJ.2.2.2.2.2.2.2.2.2.2.2.1 h; ⟨v0, v1, e, y0.keep hk, y1⟩, fun h => (hJ.2.2.2.2.2.2.2.2.2.2.2.2.1 h).keep hk, hJ.2.2.2.2.2.2.2.2.2.2.2.2.2.1, hJ.2.2.2.2.2.2.2.2.2.2.2.2.2.2.1, fun h => (hJ.2.2.2.2.2.2.2.2.2.2.2.2.2.2.2.1 h).put [.bool sv, .slice mv nv cv], fun _ h => no_more h, fun _ => PV.set' [.bool sv, .slice mv nv cv] hg hv hbx hge rfl⟩
              | 12, _ =>
                refine StepAt.of (need := [9]) (later := []) (k := 6) (d := some 11) rfl rfl (by kernel_rfl) (by kernel_rfl) ?_
                intro L T wq ev a he hL hN hM hJ next hnext
                have e53 := he.tmp 53
                go_simp
                exact hnext _ _ ⟨hJ.1, hJ.2.1, hJ.2.2.1, hJ.2.2.2.1, hJ.2.2.2.2.1, hJ.2.2.2.2.2.1, hJ.2.2.2.2.2.2.1, hJ.2.2.2.2.2.2.2.1, hJ.2.2.2.2.2.2.2.2.1, hJ.2.2.2.2.2.2.2.2.2.1, hJ.2.2.2.2.2.2.2.2.2.2.1, hJ.2.2.2.2.2.2.2.2.2.2.2.1, hJ.2.2.2.2.2.2.2.2.2.2.2.2.1, hJ.2.2.2.2.2.2.2.2.2.2.2.2.2.1, fun _ => hJ.2.2.2.2.2.2.2.2.2.2.2.2.2.1 (hN.1), hJ.2.2.2.2.2.2.2.2.2.2.2.2.2.2.2.1, hJ.2.2.2.2.2.2.2.2.2.2.2.2.2.2.2.2.1, hJ.2.2.2.2.2.2.2.2.2.2.2.2.2.2.2.2.2⟩
              | k + 13, hi => exact absurd hi (Nat.not_lt.2 (Nat.le_add_left 13 k))
            · intro L a wq hA hJ hs hd hf
              obtain ⟨g5, cs0, hp0, hge0, hv0, hb0⟩ := hJ.2.2.2.2.2.2.2.2.2.2.2.2.2.2.2.2.2 (hA.2.2.2.2.2.2.2.2.2.2.2.1)
              have i0 := hJ.2.2.2.2.2.2.2.2.2.2.2.2.1 (hA.2.2.2.2.2.2.2.2.1)
              obtain ⟨s5, m5, n5, c5, hq0, i0⟩ := i0.cells
              rw [hq0, Value.agg.injEq] at hv0
              have hl0 : cs0 = _ := congrArg Array.toList hv0.symm
              subst hl0
              refine (by assumption : ∀ a' w', Met _ a' w' → _) _ _ (Met.intro ((by assumption : ∀ a' w', _ → _) _ _ ?_))
              exact ⟨a.tmps.getD 10 undef, a.tmps.getD 11 undef, a.tmps.getD 44 undef, a.tmps.getD 45 undef, a.tmps.getD 46 undef, a.tmps.getD 47 undef, a.tmps.getD 48 undef, a.tmps.getD 49 undef, a.tmps.getD 50 undef, a.tmps.getD 51 undef, a.tmps.getD 52 undef, a.tmps.getD 53 undef, ⟨g5, s5, m5, n5, c5, hp0, hge0, hb0, i0, hJ.2.2.2.2.2.2.2.2.2.2.2.2.2.2.1 (hA.2.2.2.2.2.2.2.2.2.2.2.2.1), hJ.1⟩, act_eq _ _ [10, 11, 44, 45, 46, 47, 48, 49, 50, 51, 52, 53] hf (by kernel_rfl) (hs.trans (by kernel_rfl)) hd (by kernel_rfl)⟩
          case rest =>
          obtain ⟨g5, s5, m5, n5, c5, rfl, hge0, hbx0, hi0, rfl, hb⟩ := hcut
          replace HB2 := hide (HB2.out.trans ((hb).mono HB2.out.size))
          replace P2 := hide (P2.out.step (hb))
          replace I2 := hide (I2.out.below (hb))
          replace LA := hide (LA.out.below (hb))
          replace I4 := hide (I4.out.below (hb))
          replace C4 := hide (C4.out.step (hb))
          have V5 := hide hbx0
          have I5 := hide hi0
          clear hb hge0 hbx0 hi0
          generalize hwc : wc = wd at *
          clear hwc
          go_wp2_with fail
          refine wp_calm (fun w' => Below wl.heap.size wl w' ∧ BoxR w' g5 (.bool s5) (.slice m5 n5 c5) ∧ RInt w' (.agg #[.bool s5, .slice m5 n5 c5]) (D / (q.den : Int)) ∧ Cell4 w' b (off + j * 4) (.bool s4) (.slice m4 n4 c4) (.bool t4) (.slice o4 p4 d4) ∧ RQ w' (.agg #[.bool s4, .slice m4 n4 c4, .bool t4, .slice o4 p4 d4]) q ∧ ListR w' wl.heap.size u8 T) (fun j => j != 9 && j != 10) 11 #[false, false, false, false, false, false, false, false, false, false, false] (by kernel_rfl) rfl rfl ?_
          have HF := hide (And.intro (HB2.out.drew) (And.intro (V5.out.drew) (And.intro (I5.out.drew) (And.intro (C4.out.drew) (And.intro (I4.out.drew) (LA.out.drew))))))
          generalize wd.drew = wdd at *
          refine Calm.takeL 11 (i := 0) (v := ?_) (a' := ?_) (l' := #[true, false, false, false, false, false, false, false, false, false, false]) (d := some 54) (by kernel_rfl) rfl (by kernel_rfl) (by kernel_rfl) (by kernel_rfl) (by kernel_rfl) (fun _ _ _ h => h) HF.out rfl ?_ rfl rfl ?_ ?_
          rotate_left
          · intro w' hF; clear hF; go_simp; try rfl
          rotate_left
          · simp only [Act.put]; exact rfl
          refine Calm.takeL 11 (i := 1) (v := ?_) (a' := ?_) (l' := #[true, true, false, false, false, false, false, false, false, false, false]) (d := some 55) (by kernel_rfl) rfl (by kernel_rfl) (by kernel_rfl) (by kernel_rfl) (by kernel_rfl) (fun _ _ _ h => h) HF.out rfl ?_ rfl rfl ?_ ?_
          rotate_left
          · intro w' hF; clear hF; go_simp; try rfl
          rotate_left
          · simp only [Act.put]; exact rfl
          refine Calm.takeL 11 (i := 2) (v := ?_) (a' := ?_) (l' := #[true, true, true, false, false, false, false, false, false, false, false]) (d := some 56) (by kernel_rfl) rfl (by kernel_rfl) (by kernel_rfl) (by kernel_rfl) (by kernel_rfl) (fun _ _ _ h => h) HF.out rfl ?_ rfl rfl ?_ ?_
          rotate_left
          · intro w' hF; clear hF; go_simp; try rfl
          rotate_left
          · simp only [Act.put]; exact rfl
          refine Calm.takeL 11 (i := 3) (v := ?_) (a' := ?_) (l' := #[true, true, true, true, false, false, false, false, false, false, false]) (d := some 57) (by kernel_rfl) rfl (by kernel_rfl) (by kernel_rfl) (by kernel_rfl) (by kernel_rfl) (fun _ _ _ h => h) HF.out rfl ?_ rfl rfl ?_ ?_
          rotate_left
          · intro w' hF; clear hF; go_simp; try rfl
          rotate_left
          · simp only [Act.put]; exact rfl
          refine Calm.takeL 11 (i := 4) (v := ?_) (a' := ?_) (l' := #[true, true, true, true, true, false, false, false, false, false, false]) (d := some 58) (by kernel_rfl) rfl (by kernel_rfl) (by kernel_rfl) (by kernel_rfl) (by kernel_rfl) (fun _ _ _ h => h) HF.out rfl ?_ rfl rfl ?_ ?_
          rotate_left
          · intro w' hF; clear hF; go_simp; try rfl
          rotate_left
          · simp only [Act.put]; exact rfl
          refine Calm.takeL 11 (i := 5) (v := ?_) (a' := ?_) (l' := #[true, true, true, true, true, true, false, false, false, false, false]) (d := some 59) (by kernel_rfl) rfl (by kernel_rfl) (by kernel_rfl) (by kernel_rfl) (by kernel_rfl) (fun _ _ _ h => h) HF.out rfl ?_ rfl rfl ?_ ?_
          rotate_left
          · intro w' hF; have f10 := hF.2.1.cell0; have f11 := hF.2.1.cell1; have f30 := hF.2.2.2.1.cell0; have f31 := hF.2.2.2.1.cell1; have f32 := hF.2.2.2.1.cell2; have f33 := hF.2.2.2.1.cell3; clear hF; go_simp; try rfl
          rotate_left
          · simp only [Act.put]; exact rfl
          refine Calm.takeL 11 (i := 6) (v := ?_) (a' := ?_) (l' := #[true, true, true, true, true, true, true, false, false, false, false]) (d := some 60) (by kernel_rfl) rfl (by kernel_rfl) (by kernel_rfl) (by kernel_rfl) (by kernel_rfl) (fun _ _ _ h => h) HF.out rfl ?_ rfl rfl ?_ ?_
          rotate_left
          · intro w' hF; have f10 := hF.2.1.cell0; have f11 := hF.2.1.cell1; have f30 := hF.2.2.2.1.cell0; have f31 := hF.2.2.2.1.cell1; have f32 := hF.2.2.2.1.cell2; have f33 := hF.2.2.2.1.cell3; clear hF; go_simp; try rfl
          rotate_left
          · simp only [Act.put]; exact rfl
          refine Calm.one (i := 7) (l' := #[true, true, true, true, true, true, true, true, false, false, false]) (by kernel_rfl) rfl rfl rfl fun K hK => ?_
          go_simp
          refine (rmul2_any _ _ q.num (D / (q.den : Int)) _ HF.out.2.2.2.2.1.num HF.out.2.2.1 (SzI.dlen (SQ.out.num) (show 2 * 300 ≤ 100000000 by decide)) (SzI.dlen (SD2.out.quoQ _) (show 2 * 4000 ≤ 100000000 by decide))).mono ?_
          rintro e x3 ⟨v, rfl, n, hb⟩
          obtain ⟨s6, m6, n6, c6, rfl, n⟩ := n.cells
          have HF' := hide (And.intro (HF.out.1.trans ((hb).mono HF.out.1.size)) (And.intro (HF.out.2.1.step (hb)) (And.intro (HF.out.2.2.1.below (hb)) (And.intro (HF.out.2.2.2.1.step (hb)) (And.intro (HF.out.2.2.2.2.1.below (hb)) (HF.out.2.2.2.2.2.below (hb)))))))
          have TV := hide (n)
          refine hK _ _ (fun _ => HF'.out) ?_
          clear hK K HF hb n
          have HF := hide HF'.out
          clear HF'
          refine Calm.one (i := 8) (l' := #[true, true, true, true, true, true, true, true, true, false, false]) (by kernel_rfl) rfl rfl rfl fun K hK => ?_
          go_simp
          have al := below_alloc x3 (.cells #[.bool s6, .slice m6 n6 c6] 57)
          have HF' := hide (And.intro (HF.out.1.trans ((al).mono HF.out.1.size)) (And.intro (HF.out.2.1.step (al)) (And.intro (HF.out.2.2.1.below (al)) (And.intro (HF.out.2.2.2.1.step (al)) (And.intro (HF.out.2.2.2.2.1.below (al)) (HF.out.2.2.2.2.2.below (al)))))))
          have BXe := hide (BoxR.new x3 (.bool s6) (.slice m6 n6 c6))
          replace TV := hide (TV.out.below (al))
          have LT1e := hide (HF.out.2.1.lt)
          have GEe := hide (HF.out.1.size)
          refine hK _ _ (fun _ => HF'.out) ?_
          clear hK K HF al
          have HF := hide HF'.out
          clear HF'
          generalize x3.alloc (.cells #[.bool s6, .slice m6 n6 c6] 57) = wze at *
          generalize x3.heap.size = ge at *
          refine Calm.one (i := 9) (l' := #[true, true, true, true, true, true, true, true, true, true, false]) (by kernel_rfl) rfl rfl rfl fun K hK => ?_
          obtain ⟨zx, ho, hx⟩ := HF.out.2.2.2.2.2
          have he0 := BXe.out.cell0
          have he1 := BXe.out.cell1
          refine wp_app2 _ (.tmp 54) (.tmp 62) 62 rfl wl.heap.size 57 _ Try.underlying62 TI.out.1 TI.out.2.1 TI.out.2.2.1 TI.out.2.2.2 u8 T.length zx rfl ho ge 1 s6 m6 n6 c6 rfl he0 he1 (by have := TL.out; omega) HF.out.1.size ?_
          intro vA xA ho' hg hob
          clear he0 he1
          refine hK _ _ (fun h => absurd h (by decide)) ?_
          clear hK K
          refine Calm.one (i := 10) (l' := #[true, true, true, true, true, true, true, true, true, true, true]) (by kernel_rfl) rfl rfl rfl fun K hK => ?_
          go_simp
          refine hK _ _ (fun h => absurd h (by decide)) ?_
          clear hK K
          refine Calm.done (by kernel_rfl) ?_
          have LA2 := hide (ListR.app ho hx TV.out ho' hg)
          have HB3 := hide (below_growQ HF.out.1 hg HF.out.1.size (fun g e => (HF.out.2.2.2.2.2.lt e).1))
          clear HF ho hx ho' hg hob TV BXe
          go_wp2
          go_roundw
          case rel => exact ⟨j + 1, by omega, by go_num, HB3.out, hide (by rw [ST.out]; exact LA2.out)⟩
          case measure => simp [intOf]; omega
        · have e : j = k := by omega
          subst e
          have LB : Hid (ListR wr wl.heap.size u8 (comQ qs)) := hide (by have hh := LA.out; rw [(show (comQ qs).take j = comQ qs from List.take_of_length_le (by rw [comQ_len, HN.out]; exact Nat.le_refl _))] at hh; exact hh)
          clear LA
          have R2 := hide (R0.out.step HB2.out)
          have HB4 := hide (HB.out.trans (HB2.out.mono HB.out.size))
          obtain ⟨la, lc, hlv⟩ := LB.out.slice
          subst hlv
          go_wp2_with fail
          refine wp_calm (fun w' => Below w.heap.size w w' ∧ BoxR w' w.heap.size (.bool false) (.slice none 0 0) ∧ BoxR w' g1 (.bool s1) (.slice m1 n1 c1) ∧ RInt w' (.agg #[.bool s1, .slice m1 n1 c1]) (lcmQ qs) ∧ ListR w' wl.heap.size (.slice la (comQ qs).length lc) (comQ qs)) (fun j => j != 3) 4 #[false, false, false, false] (by kernel_rfl) rfl rfl ?_
          have HF := hide (And.intro (HB4.out.drew) (And.intro (R2.out.drew) (And.intro (P2.out.drew) (And.intro (I2.out.drew) (LB.out.drew)))))
          generalize wr.drew = wrd at *
          refine Calm.takeL 4 (i := 0) (v := ?_) (a' := ?_) (l' := #[true, false, false, false]) (d := some 64) (by kernel_rfl) rfl (by kernel_rfl) (by kernel_rfl) (by kernel_rfl) (by kernel_rfl) (fun _ _ _ h => h) HF.out rfl ?_ rfl rfl ?_ ?_
          rotate_left
          · intro w' hF; clear hF; go_simp; try rfl
          rotate_left
          · simp only [Act.put]; exact rfl
          refine Calm.takeL 4 (i := 1) (v := ?_) (a' := ?_) (l' := #[true, true, false, false]) (d := some 65) (by kernel_rfl) rfl (by kernel_rfl) (by kernel_rfl) (by kernel_rfl) (by kernel_rfl) (fun _ _ _ h => h) HF.out rfl ?_ rfl rfl ?_ ?_
          rotate_left
          · intro w' hF; have f10 := hF.2.1.cell0; have f11 := hF.2.1.cell1; have f20 := hF.2.2.1.cell0; have f21 := hF.2.2.1.cell1; clear hF; go_simp; try rfl
          rotate_left
          · simp only [Act.put]; exact rfl
          refine Calm.takeL 4 (i := 2) (v := ?_) (a' := ?_) (l' := #[true, true, true, false]) (d := some 2) (by kernel_rfl) rfl (by kernel_rfl) (by kernel_rfl) (by kernel_rfl) (by kernel_rfl) (fun _ _ _ h => h) HF.out rfl ?_ rfl rfl ?_ ?_
          rotate_left
          · intro w' hF; clear hF; go_simp; try rfl
          rotate_left
          · simp only [Act.put]; exact rfl
          refine Calm.one (i := 3) (l' := #[true, true, true, true]) (by kernel_rfl) rfl rfl rfl fun K hK => ?_
          have hc0 := HF.out.2.1.cell0
          have hc1 := HF.out.2.1.cell1
          have hf0 := HF.out.2.1.free 0
          have hf1 := HF.out.2.1.free 1
          go_simp
          refine hK _ _ (fun h => absurd h (by decide)) ?_
          clear hK K
          refine Calm.done (by kernel_rfl) ?_
          clear hc0 hc1 hf0 hf1
          go_wp2
          refine ret_lrint rfl _ w.heap.size _ _ rfl rfl (HF.out.2.1.put _ _) rfl ?_
          exact ⟨_, _, rfl, (HF.out.2.2.2.2.high (high2 (by have h1 := LT1.out; have h2 := LT2.out; omega) _ _) (HF.out.2.1.keeps (by simp) (by simp) _ _)).rints, HF.out.2.2.2.1.keep (HF.out.2.1.keeps (by simp) (by simp) _ _), below_put HF.out.1 (Nat.le_refl _) _ _⟩

end Go.Proofs.Ytgkibmigbjjnnaa
