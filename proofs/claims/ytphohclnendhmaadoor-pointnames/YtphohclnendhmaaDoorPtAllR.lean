/- swageref06.All: the document's list of all norms. -/
import Derived.Test.YtphohclnendhmaaDoorPtList
import Derived.Laws.AppendOwn
namespace Go.Proofs.YtphohclnendhmaaDoor
open Go.RowKit

/-- a point and the one across from it, if the point is told at h -/
def okP (h a b : Int) : Bool := (a == h || b == h) && (nA a b == a && nB a b == b) && b != 0
def twoP (h a b : Int) : List (Int × Int) := if okP h a b then [(a, b), (-a, b)] else []
def rowR (h b : Int) (n : Nat) : List (Int × Int) := (List.range n).flatMap fun (i : Nat) => twoP h ((i : Int) + 1) b
def hgtR (h : Nat) (n : Nat) : List (Int × Int) := (List.range n).flatMap fun (j : Nat) => rowR h j h
def allR (n : Nat) : List (Int × Int) := (0, 1) :: (1, 0) :: (List.range n).flatMap fun i => hgtR (i + 1) (i + 2)
theorem rowR_succ (h b : Int) (n : Nat) : rowR h b (n + 1) = rowR h b n ++ twoP h ((n : Int) + 1) b := by simp [rowR, List.range_succ]
theorem hgtR_succ (h n : Nat) : hgtR h (n + 1) = hgtR h n ++ rowR h n h := by simp [hgtR, List.range_succ]
theorem allR_succ (n : Nat) : allR (n + 1) = allR n ++ hgtR (n + 1) (n + 2) := by simp [allR, List.range_succ]
/-- the cells of points -/
def ptV (ps : List (Int × Int)) : List Value := ps.flatMap fun p => [.int .i64 p.1, .int .i64 p.2]
theorem ptV_app (ps qs : List (Int × Int)) : ptV (ps ++ qs) = ptV ps ++ ptV qs := by simp [ptV]
theorem ptV_get : ∀ (ps : List (Int × Int)) (i : Nat), i < ps.length → (ptV ps)[i * 2]? = some (.int .i64 (pA ps i)) ∧ (ptV ps)[i * 2 + 1]? = some (.int .i64 (pB ps i))
  | [], _, h => absurd h (Nat.not_lt_zero _)
  | p :: ps, 0, _ => ⟨rfl, rfl⟩
  | p :: ps, i + 1, h => by
    have := ptV_get ps i (by simpa using h)
    rw [show (i + 1) * 2 = i * 2 + 1 + 1 from by omega]
    exact this
theorem ptV_len (ps : List (Int × Int)) : (ptV ps).length = ps.length * 2 := by
  induction ps with
  | nil => rfl
  | cons p ps ih => show (ptV ps).length + 2 = _; rw [ih]; simp; omega
theorem Tryd.infoPtA : (Tryd.prog.info? 27).map (fun i => (i.zero, i.size, i.bytes)) = some (some (.agg #[.int .i64 0, .int .i64 0]), 2, 16) := by kernel_rfl
/-- a list of points of the call's own -/
def OwnP (w : World) (base : Nat) (v : Value) (ps : List (Int × Int)) : Prop := w.ownsRow base 27 2 v ps.length (ptV ps)
theorem OwnP.pts {w : World} {base : Nat} {v : Value} {ps : List (Int × Int)} (h : OwnP w base v ps) : PtsAt w v ps := by
  rcases h.2 with ⟨rfl, h0⟩ | ⟨g, cap, cur, rfl, _, hgg, hn, hm, _, _⟩
  · exact ⟨none, 0, by rw [h0], by rw [h0]; exact Nat.le_refl _, Nat.zero_le _, fun hne => absurd (List.eq_nil_of_length_eq_zero h0) hne⟩
  · refine ⟨_, cap, rfl, hn, hm, fun _ => ⟨g, 0, rfl, fun i hi => ?_⟩⟩
    have hp := ptV_get ps i hi
    have e : ∀ j, j < ps.length * 2 → w.cell? ⟨g, j, none⟩ = (ptV ps)[j]? := fun j hj => World.ownsRow.cellAt h j (by omega)
    exact ⟨by rw [show 0 + i * 2 = i * 2 from by omega, e _ (by omega)]; exact hp.1, by rw [show 0 + i * 2 = i * 2 from by omega, e _ (by omega)]; exact hp.2⟩

theorem OwnP.below {w w' : World} {base : Nat} {v : Value} {ps : List (Int × Int)} (h : OwnP w base v ps) (hb : Below w.heap.size w w') : OwnP w' base v ps := by
  refine ⟨h.1, ?_⟩
  rcases h.2 with h0 | ⟨g, cap, cur, e1, e2, hgg, rest⟩
  · exact .inl h0
  · exact .inr ⟨g, cap, cur, e1, e2, (hb.block g (Array.getElem?_eq_some_iff.1 hgg).1).trans hgg, rest⟩
theorem OwnP.start (w : World) : OwnP (w.alloc (.cells #[.int .i64 0, .int .i64 1, .int .i64 1, .int .i64 0] 27)) w.heap.size (.slice (some ⟨w.heap.size, 0, none⟩) 2 2) (allR 0) :=
  World.ownsRow_lit w #[.int .i64 0, .int .i64 1, .int .i64 1, .int .i64 0] 2 (Nat.le_refl _) (by unfold maxLen; decide) rfl

set_option maxRecDepth 100000 in
set_option maxHeartbeats 2000000 in
theorem rall_no (n : Int) (w : World) (h : n < 1 ∨ 16 < n) :
    Calls Tryd.prog 13 #[.int .i64 n] w fun e w' => e = .returned (.slice none 0 0) ∧ Below w.heap.size w w' := by
  by_cases h1 : n < 1
  · clear h
    go_enter Tryd.func13, Tryd.ntmps13
    go_wp2
    go_ret
    exact ⟨rfl, Below.refl _ _⟩
  · have h2 : 16 < n := by omega
    clear h
    go_enter Tryd.func13, Tryd.ntmps13
    go_wp2
    go_ret
    exact ⟨rfl, Below.refl _ _⟩

set_option maxRecDepth 100000 in
set_option maxHeartbeats 8000000 in
theorem rall_any (n : Nat) (w : World) (h1 : 1 ≤ n) (h16 : n ≤ 16) :
    Calls Tryd.prog 13 #[.int .i64 (n : Int)] w fun e w' => ∃ v, e = .returned v ∧ PtsAt w' v (allR n) ∧ (allR n).length ≤ 10000 ∧ Below w.heap.size w w' := by
  obtain ⟨i0, hi, hz0, hz1, hz2⟩ := info_parts Tryd.infoPtA
  have TR := hide (And.intro hi (And.intro hz0 (And.intro hz1 hz2)))
  clear hi hz0 hz1 hz2
  go_enter Tryd.func13, Tryd.ntmps13
  go_wp2
  have OS := hide (OwnP.start w)
  have HB0 := hide (below_alloc w (.cells #[.int .i64 0, .int .i64 1, .int .i64 1, .int .i64 0] 27))
  generalize w.alloc (.cells #[.int .i64 0, .int .i64 1, .int .i64 1, .int .i64 0] 27) = w0 at *
  go_loopw [3, 4, 5, 6] (fun ov hv _ _ wr => ∃ k : Nat, k ≤ n ∧ hv = .int .i64 ((k : Int) + 1) ∧ OwnP wr w.heap.size ov (allR k) ∧ (allR k).length ≤ 2 + 544 * k ∧ Below w.heap.size w wr) (fun _ hv _ _ _ => n + 1 - (intOf hv).toNat)
  case atStart => exact ⟨0, Nat.zero_le _, rfl, OS.out, Nat.le_refl _, HB0.out⟩
  case round =>
    clear OS HB0
    obtain ⟨k, hk, rfl, ho, hl, hb⟩ := hrel
    have OP := hide ho
    have HB := hide hb
    have HL := hide hl
    clear ho hb hl
    by_cases hlt : k < n
    · have hc1 : ((k : Int) + 1 ≤ (n : Int)) := by omega
      go_wp2
      go_loopw [3, 5, 6] (fun ov bv _ wr => ∃ j : Nat, j ≤ k + 2 ∧ bv = .int .i64 (j : Int) ∧ OwnP wr w.heap.size ov (allR k ++ hgtR (k + 1) j) ∧ (allR k ++ hgtR (k + 1) j).length ≤ 2 + 544 * k + 32 * j ∧ Below w.heap.size w wr) (fun _ bv _ _ => k + 2 - (intOf bv).toNat)
      case atStart => exact ⟨0, Nat.zero_le _, rfl, by simpa [hgtR] using OP.out, by simpa [hgtR] using HL.out, HB.out⟩
      case round =>
        clear OP HB HL
        obtain ⟨j, hj, rfl, ho, hl, hb⟩ := hrel
        have OP := hide ho
        have HB := hide hb
        have HL := hide hl
        clear ho hb hl
        by_cases hlj : j < k + 2
        · have hc2 : ((j : Int) ≤ (k : Int) + 1) := by omega
          go_wp2
          go_loopw [3, 6] (fun ov av wr => ∃ i : Nat, i ≤ k + 1 ∧ av = .int .i64 ((i : Int) + 1) ∧ OwnP wr w.heap.size ov (allR k ++ hgtR (k + 1) j ++ rowR ((k + 1 : Nat) : Int) j i) ∧ (allR k ++ hgtR (k + 1) j ++ rowR ((k + 1 : Nat) : Int) j i).length ≤ 2 + 544 * k + 32 * j + 2 * i ∧ Below w.heap.size w wr) (fun _ av _ => k + 2 - (intOf av).toNat)
          case atStart => exact ⟨0, Nat.zero_le _, rfl, by simpa [rowR] using OP.out, by simpa [rowR] using HL.out, HB.out⟩
          case round =>
            clear OP HB HL
            obtain ⟨i, hi, rfl, ho, hl, hb⟩ := hrel
            have OP := hide ho
            have HB := hide hb
            have HL := hide hl
            clear ho hb hl
            by_cases hli : i < k + 1
            · have hc3 : ((i : Int) + 1 ≤ (k : Int) + 1) := by omega
              have T0 : Hid (okP ((k + 1 : Nat) : Int) ((i : Int) + 1) j = false → allR k ++ hgtR (k + 1) j ++ rowR ((k + 1 : Nat) : Int) j (i + 1) = allR k ++ hgtR (k + 1) j ++ rowR ((k + 1 : Nat) : Int) j i) := hide (fun h => by rw [rowR_succ, twoP, h]; simp)
              have T1 : Hid (okP ((k + 1 : Nat) : Int) ((i : Int) + 1) j = true → allR k ++ hgtR (k + 1) j ++ rowR ((k + 1 : Nat) : Int) j (i + 1) = allR k ++ hgtR (k + 1) j ++ rowR ((k + 1 : Nat) : Int) j i ++ [((i : Int) + 1, (j : Int)), (-((i : Int) + 1), (j : Int))]) := hide (fun h => by rw [rowR_succ, twoP, h]; simp)
              generalize allR k ++ hgtR (k + 1) j ++ rowR ((k + 1 : Nat) : Int) j i = X at *
              by_cases hc : (i : Int) + 1 ≠ (k : Int) + 1 ∧ (j : Int) ≠ (k : Int) + 1
              · obtain ⟨c1, c2⟩ := hc
                have c1' : ((i : Int) + 1 != (k : Int) + 1) = true := by simpa using c1
                have c2' : ((j : Int) != (k : Int) + 1) = true := by simpa using c2
                have TE := hide (T0.out (by unfold okP; have e1 : ((i : Int) + 1 == ((k + 1 : Nat) : Int)) = false := by simp; omega
                                            have e2 : ((j : Int) == ((k + 1 : Nat) : Int)) = false := by simp; omega
                                            rw [e1, e2]; rfl))
                clear c1 c2
                go_wp2
                go_roundw
                case rel => exact ⟨i + 1, by omega, by go_num, by rw [TE.out]; exact OP.out, by rw [TE.out]; have := HL.out; omega, HB.out⟩
                case measure => simp [intOf]; omega
              · by_cases ca : (i : Int) + 1 = (k : Int) + 1
                · have ca' : ((i : Int) + 1 != (k : Int) + 1) = false := by simpa using ca
                  have CA : Hid ((i : Int) + 1 = (k : Int) + 1 ∨ (j : Int) = (k : Int) + 1) := hide (.inl ca)
                  clear hc ca
                  go_wp2_with fail
                  refine (rnorm_any ((i : Int) + 1) j _ (by omega) (by omega) (by omega) (by omega)).mono ?_
                  rintro e w1 ⟨rfl, hbn⟩
                  replace OP := hide (OP.out.below hbn)
                  replace HB := hide (HB.out.trans (hbn.mono HB.out.size))
                  clear hbn
                  by_cases hq : nA ((i : Int) + 1) j = (i : Int) + 1 ∧ nB ((i : Int) + 1) j = j
                  · rw [hq.1, hq.2]
                    have HQ := hide hq
                    clear hq
                    by_cases hj0 : j = 0
                    · have hj0' : ((j : Int) == 0) = true := by simp; omega
                      have TE := hide (T0.out (by unfold okP; have e3 : ((j : Int) != 0) = false := by simp; omega
                                                  rw [e3]; simp))
                      clear hj0
                      go_wp2
                      go_roundw
                      case rel => exact ⟨i + 1, by omega, by go_num, by rw [TE.out]; exact OP.out, by rw [TE.out]; have := HL.out; omega, HB.out⟩
                      case measure => simp [intOf]; omega
                    · have hj0' : ((j : Int) == 0) = false := by simp; omega
                      have TE := hide (T1.out (by unfold okP; rw [HQ.out.1, HQ.out.2]; have e3 : ((j : Int) != 0) = true := by simp; omega
                                                  have e0 : (((i : Int) + 1 == ((k + 1 : Nat) : Int)) || ((j : Int) == ((k + 1 : Nat) : Int))) = true := by simp; have := CA.out; omega
                                                  rw [e3, e0]; simp))
                      have hlB := HL.out
                      clear hj0
                      have LTO := hide (fun k e => (World.ownsRow.lt OP.out k e).1)
                      go_wp2_with (at_builtin; refine wpList_append_own _ rfl _ _ 22 rfl w.heap.size 27 i0 (.agg #[.int .i64 0, .int .i64 0]) 2 16 Tryd.underlying22 TR.out.1 TR.out.2.1 TR.out.2.2.1 TR.out.2.2.2 rfl (by decide) _ _ _ rfl (World.ownsRow.alloc OP.out _) ⟨w1.heap.size, 0, none⟩ 2 2 [.int .i64 ((i : Int) + 1), .int .i64 (j : Int), .int .i64 (-((i : Int) + 1)), .int .i64 (j : Int)] rfl rfl ?_ ?_ ?_ ?_ ?_ ?_)
                      · intro q u hu
                        match q, hu with
                        | 0, hu => simp at hu; subst hu; simp [Addr.add]
                        | 1, hu => simp at hu; subst hu; simp [Addr.add]
                        | 2, hu => simp at hu; subst hu; simp [Addr.add]
                        | 3, hu => simp at hu; subst hu; simp [Addr.add]
                      · intro u hu; simp at hu; rcases hu with rfl | rfl | rfl | rfl <;> rfl
                      · unfold maxLen; omega
                      · omega
                      · have := HB.out.size; simp; omega
                      · intro v' w2 hown hgrow _
                        have HB2 := hide ((HB.out.alloc HB.out.size (.cells #[.int .i64 ((i : Int) + 1), .int .i64 (j : Int), .int .i64 (-((i : Int) + 1)), .int .i64 (j : Int)] 27)).grown hgrow (by have := HB.out.size; simp; omega) LTO.out)
                        have OP2 : Hid (OwnP w2 w.heap.size v' (X ++ [((i : Int) + 1, (j : Int)), (-((i : Int) + 1), (j : Int))])) := hide (by unfold OwnP; rw [ptV_app]; simpa [ptV] using hown)
                        clear hown hgrow
                        go_wp2
                        go_roundw
                        case rel => exact ⟨i + 1, by omega, by go_num, by rw [TE.out]; exact OP2.out, by rw [TE.out]; simp; omega, HB2.out⟩
                        case measure => simp [intOf]; omega
                  · have TE := hide (T0.out (by unfold okP; have e3 : (nA ((i : Int) + 1) j == (i : Int) + 1 && nB ((i : Int) + 1) j == j) = false := by simpa using hq
                                                rw [e3]; simp))
                    generalize nA ((i : Int) + 1) j = p at *
                    generalize nB ((i : Int) + 1) j = q at *
                    by_cases hp : p = (i : Int) + 1
                    · have hq3 : ¬ q = (j : Int) := fun e => hq ⟨hp, e⟩
                      clear hq
                      go_wp2
                      go_roundw
                      case rel => exact ⟨i + 1, by omega, by go_num, by rw [TE.out]; exact OP.out, by rw [TE.out]; have := HL.out; omega, HB.out⟩
                      case measure => simp [intOf]; omega
                    · clear hq
                      go_wp2
                      go_roundw
                      case rel => exact ⟨i + 1, by omega, by go_num, by rw [TE.out]; exact OP.out, by rw [TE.out]; have := HL.out; omega, HB.out⟩
                      case measure => simp [intOf]; omega
                · have ca' : ((i : Int) + 1 != (k : Int) + 1) = true := by simpa using ca
                  have cj : (j : Int) = (k : Int) + 1 := by omega
                  have CA : Hid ((i : Int) + 1 = (k : Int) + 1 ∨ (j : Int) = (k : Int) + 1) := hide (.inr cj)
                  have cb' : ((j : Int) != (k : Int) + 1) = false := by simpa using cj
                  clear hc ca cj
                  go_wp2_with fail
                  refine (rnorm_any ((i : Int) + 1) j _ (by omega) (by omega) (by omega) (by omega)).mono ?_
                  rintro e w1 ⟨rfl, hbn⟩
                  replace OP := hide (OP.out.below hbn)
                  replace HB := hide (HB.out.trans (hbn.mono HB.out.size))
                  clear hbn
                  by_cases hq : nA ((i : Int) + 1) j = (i : Int) + 1 ∧ nB ((i : Int) + 1) j = j
                  · rw [hq.1, hq.2]
                    have HQ := hide hq
                    clear hq
                    by_cases hj0 : j = 0
                    · have hj0' : ((j : Int) == 0) = true := by simp; omega
                      have TE := hide (T0.out (by unfold okP; have e3 : ((j : Int) != 0) = false := by simp; omega
                                                  rw [e3]; simp))
                      clear hj0
                      go_wp2
                      go_roundw
                      case rel => exact ⟨i + 1, by omega, by go_num, by rw [TE.out]; exact OP.out, by rw [TE.out]; have := HL.out; omega, HB.out⟩
                      case measure => simp [intOf]; omega
                    · have hj0' : ((j : Int) == 0) = false := by simp; omega
                      have TE := hide (T1.out (by unfold okP; rw [HQ.out.1, HQ.out.2]; have e3 : ((j : Int) != 0) = true := by simp; omega
                                                  have e0 : (((i : Int) + 1 == ((k + 1 : Nat) : Int)) || ((j : Int) == ((k + 1 : Nat) : Int))) = true := by simp; have := CA.out; omega
                                                  rw [e3, e0]; simp))
                      have hlB := HL.out
                      clear hj0
                      have LTO := hide (fun k e => (World.ownsRow.lt OP.out k e).1)
                      go_wp2_with (at_builtin; refine wpList_append_own _ rfl _ _ 22 rfl w.heap.size 27 i0 (.agg #[.int .i64 0, .int .i64 0]) 2 16 Tryd.underlying22 TR.out.1 TR.out.2.1 TR.out.2.2.1 TR.out.2.2.2 rfl (by decide) _ _ _ rfl (World.ownsRow.alloc OP.out _) ⟨w1.heap.size, 0, none⟩ 2 2 [.int .i64 ((i : Int) + 1), .int .i64 (j : Int), .int .i64 (-((i : Int) + 1)), .int .i64 (j : Int)] rfl rfl ?_ ?_ ?_ ?_ ?_ ?_)
                      · intro q u hu
                        match q, hu with
                        | 0, hu => simp at hu; subst hu; simp [Addr.add]
                        | 1, hu => simp at hu; subst hu; simp [Addr.add]
                        | 2, hu => simp at hu; subst hu; simp [Addr.add]
                        | 3, hu => simp at hu; subst hu; simp [Addr.add]
                      · intro u hu; simp at hu; rcases hu with rfl | rfl | rfl | rfl <;> rfl
                      · unfold maxLen; omega
                      · omega
                      · have := HB.out.size; simp; omega
                      · intro v' w2 hown hgrow _
                        have HB2 := hide ((HB.out.alloc HB.out.size (.cells #[.int .i64 ((i : Int) + 1), .int .i64 (j : Int), .int .i64 (-((i : Int) + 1)), .int .i64 (j : Int)] 27)).grown hgrow (by have := HB.out.size; simp; omega) LTO.out)
                        have OP2 : Hid (OwnP w2 w.heap.size v' (X ++ [((i : Int) + 1, (j : Int)), (-((i : Int) + 1), (j : Int))])) := hide (by unfold OwnP; rw [ptV_app]; simpa [ptV] using hown)
                        clear hown hgrow
                        go_wp2
                        go_roundw
                        case rel => exact ⟨i + 1, by omega, by go_num, by rw [TE.out]; exact OP2.out, by rw [TE.out]; simp; omega, HB2.out⟩
                        case measure => simp [intOf]; omega
                  · have TE := hide (T0.out (by unfold okP; have e3 : (nA ((i : Int) + 1) j == (i : Int) + 1 && nB ((i : Int) + 1) j == j) = false := by simpa using hq
                                                rw [e3]; simp))
                    generalize nA ((i : Int) + 1) j = p at *
                    generalize nB ((i : Int) + 1) j = q at *
                    by_cases hp : p = (i : Int) + 1
                    · have hq3 : ¬ q = (j : Int) := fun e => hq ⟨hp, e⟩
                      clear hq
                      go_wp2
                      go_roundw
                      case rel => exact ⟨i + 1, by omega, by go_num, by rw [TE.out]; exact OP.out, by rw [TE.out]; have := HL.out; omega, HB.out⟩
                      case measure => simp [intOf]; omega
                    · clear hq
                      go_wp2
                      go_roundw
                      case rel => exact ⟨i + 1, by omega, by go_num, by rw [TE.out]; exact OP.out, by rw [TE.out]; have := HL.out; omega, HB.out⟩
                      case measure => simp [intOf]; omega
            · have e : i = k + 1 := by omega
              subst e
              have hc3 : ¬ (((k + 1 : Nat) : Int) + 1 ≤ (k : Int) + 1) := by omega
              have HS := hide (hgtR_succ (k + 1) j)
              go_wp2
              go_roundw
              case rel => exact ⟨j + 1, by omega, by go_num, by rw [HS.out, ← List.append_assoc]; exact OP.out, by rw [HS.out, ← List.append_assoc]; have := HL.out; omega, HB.out⟩
              case measure => simp [intOf]; omega
        · have e : j = k + 2 := by omega
          subst e
          have hc2 : ¬ (((k + 2 : Nat) : Int) ≤ (k : Int) + 1) := by omega
          have HS := hide (allR_succ k)
          go_wp2
          go_roundw
          case rel => exact ⟨k + 1, by omega, by go_num, by rw [HS.out]; exact OP.out, by rw [HS.out]; have := HL.out; omega, HB.out⟩
          case measure => simp [intOf]; omega
    · have e : k = n := by omega
      subst e
      have hc1 : ¬ ((k : Int) + 1 ≤ (k : Int)) := by omega
      go_wp2
      go_ret
      exact ⟨_, rfl, OP.out.pts, by have := HL.out; omega, HB.out⟩
end Go.Proofs.YtphohclnendhmaaDoor
