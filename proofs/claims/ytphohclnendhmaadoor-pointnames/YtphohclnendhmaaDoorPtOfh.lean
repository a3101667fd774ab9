/- point.ofHeight's iterator: the norms of one height, left early or not. -/
import Derived.Test.YtphohclnendhmaaDoorPtAllR
import Derived.RangeFuncBox
import Derived.RangeFuncLeaves
import Derived.RangeFuncNested
import Derived.Shelf.Abstract
import Derived.OwnWalkIn
import Derived.TacticsInMore
import Derived.LoopNIn
import Derived.LoopIn
import Derived.WalkMore
import Derived.Stop.RegionWithIn
import Derived.RangeFuncBound
namespace Go.Proofs.YtphohclnendhmaaDoor
open Go.RowKit Go.Shelf
attribute [local go_sem] Oper.semAt_some

def oneQ (a b : Int) : List (Int × Int) := if nA a b = a ∧ nB a b = b then [(a, b)] else []
def twoQ (h a b : Int) : List (Int × Int) := if (a = h ∧ b ≤ h) ∨ (b = h ∧ a ≤ h) then oneQ a b ++ oneQ (-a) b else []
def rowQ (h b : Int) (n : Nat) : List (Int × Int) := (List.range n).flatMap fun (i : Nat) => twoQ h ((i : Int) + 1) b
def hgtQ (h : Nat) (n : Nat) : List (Int × Int) := (List.range n).flatMap fun (j : Nat) => rowQ h ((j : Int) + 1) h
def allQ (n : Nat) : List (Int × Int) := (0, 1) :: (1, 0) :: (List.range n).flatMap fun i => hgtQ (i + 1) (i + 1)
theorem rowQ_succ (h b : Int) (n : Nat) : rowQ h b (n + 1) = rowQ h b n ++ twoQ h ((n : Int) + 1) b := by simp [rowQ, List.range_succ]
theorem hgtQ_succ (h n : Nat) : hgtQ h (n + 1) = hgtQ h n ++ rowQ h ((n : Int) + 1) h := by simp [hgtQ, List.range_succ]
theorem allQ_succ (n : Nat) : allQ (n + 1) = allQ n ++ hgtQ (n + 1) (n + 1) := by simp [allQ, List.range_succ]
theorem hgt_same : (List.range 16).all (fun i => hgtQ (i + 1) (i + 1) == hgtR (i + 1) (i + 2)) = true := by decide +kernel
theorem hgt_eq {i : Nat} (h : i < 16) : hgtQ (i + 1) (i + 1) = hgtR (i + 1) (i + 2) := by
  have := List.all_eq_true.1 hgt_same i (List.mem_range.2 h)
  simpa using this
theorem all_eq : ∀ (n : Nat), n ≤ 16 → allQ n = allR n
  | 0, _ => rfl
  | n + 1, h => by rw [allQ_succ, allR_succ, all_eq n (by omega), hgt_eq (by omega)]

/-- the blocks from lo to hi lie as they lay -/
def Keeps (lo hi : Nat) (W W' : World) : Prop := ∀ k, lo ≤ k → k < hi → W'.heap[k]? = W.heap[k]?
theorem Keeps.refl (lo hi : Nat) (W : World) : Keeps lo hi W W := fun _ _ _ => rfl
theorem Keeps.trans {lo hi : Nat} {A B C : World} (h : Keeps lo hi A B) (k : Keeps lo hi B C) : Keeps lo hi A C := fun i h1 h2 => (k i h1 h2).trans (h i h1 h2)
theorem Keeps.cell {lo hi : Nat} {W W' : World} (h : Keeps lo hi W W') {b o : Nat} (h1 : lo ≤ b) (h2 : b < hi) : W'.cell? ⟨b, o, none⟩ = W.cell? ⟨b, o, none⟩ := World.cell?_of_block (h b h1 h2)
theorem Keeps.below {lo hi : Nat} {A B C : World} (h : Keeps lo hi A B) (hb : Below B.heap.size B C) (hs : hi ≤ B.heap.size) : Keeps lo hi A C := fun i h1 h2 => (hb.block i (by omega)).trans (h i h1 h2)
theorem abides {α : Type} {B : Nat} {J : List α → World → Prop} (hJ : AbidesFrom B J) {pre : List α} {W W' : World} (h : J pre W) (hb : Below W.heap.size W W') : J pre W' :=
  hJ _ _ _ none h ⟨hb.os, hb.tape, hb.output, hb.size, fun k hk _ => hb.block k hk⟩ (fun r e => by cases e)

theorem Tryd.pix0 (W : World) (a b c d : Value) : Sem.run Tryd.prog (Instr.index 72 (.agg #[a, b, c, d]) (.int .i64 0)) W = .ok (.agg #[a, b]) W := by kernel_rfl
theorem Tryd.pix1 (W : World) (a b c d : Value) : Sem.run Tryd.prog (Instr.index 72 (.agg #[a, b, c, d]) (.int .i64 1)) W = .ok (.agg #[c, d]) W := by kernel_rfl
/-- of a point and the one across from it the first t -/
def upQ (a b : Int) : Nat → List (Int × Int)
  | 0 => []
  | 1 => oneQ a b
  | _ => oneQ a b ++ oneQ (-a) b
/-- a point as it is handed on -/
def ptE (p : Int × Int) : Array Value := #[.agg #[.int .i64 p.1, .int .i64 p.2]]

/-- what a round of the caller says: it goes on, or not -/
def Went (J Jx : List (Int × Int) → World → Prop) (lo hi : Nat) (pre : List (Int × Int)) (W : World) (b : Bool) (W' : World) : Prop :=
  (b = true ∧ J pre W' ∧ Keeps lo hi W W') ∨ (b = false ∧ Jx pre W')

theorem went_on {J Jx : List (Int × Int) → World → Prop} {lo hi : Nat} {pre : List (Int × Int)} {W W' : World} (h : Went J Jx lo hi pre W true W') : J pre W' ∧ Keeps lo hi W W' := by
  rcases h with ⟨_, h⟩ | ⟨h, _⟩
  · exact h
  · cases h
theorem went_off {J Jx : List (Int × Int) → World → Prop} {lo hi : Nat} {pre : List (Int × Int)} {W W' : World} (h : Went J Jx lo hi pre W false W') : Jx pre W' := by
  rcases h with ⟨h, _⟩ | ⟨_, h⟩
  · cases h
  · exact h
theorem keeps_size {lo hi : Nat} {W W' : World} (h : Keeps lo hi W W') (hl : lo < hi) (hs : hi ≤ W.heap.size) : hi ≤ W'.heap.size := by
  have h1 := h (hi - 1) (by omega) (by omega)
  rw [Array.getElem?_eq_getElem (show hi - 1 < W.heap.size by omega)] at h1
  have := (Array.getElem?_eq_some_iff.1 h1).1
  omega
theorem upQ_prefix (a b : Int) : ∀ t, upQ a b t <+: oneQ a b ++ oneQ (-a) b
  | 0 => List.nil_prefix
  | 1 => List.prefix_append _ _
  | _ + 2 => List.prefix_refl _
theorem yield_went {n l lo hi N : Nat} {J Jx : List (Int × Int) → World → Prop} (hY : ∀ pre x W, J pre W → pre.length < N → YieldAt Fence.wide (n - 1) Tryd.prog l (ptE x) W fun e W' =>
      (e = .returned (.bool true) ∧ J (pre ++ [x]) W' ∧ Keeps lo hi W W') ∨ (e = .returned (.bool false) ∧ Jx (pre ++ [x]) W')) {pre : List (Int × Int)} (a b : Int) {W : World} (hJ : J pre W) (hl : pre.length < N) :
    YieldAt Fence.wide (n - 1) Tryd.prog l #[.agg #[.int .i64 a, .int .i64 b]] W fun e W' => ∃ q, e = .returned (.bool q) ∧ Went J Jx lo hi (pre ++ [(a, b)]) W q W' := by
  refine (hY pre (a, b) W hJ hl).mono ?_
  rintro e W' (⟨rfl, h2, h3⟩ | ⟨rfl, h2⟩)
  · exact ⟨true, rfl, .inl ⟨rfl, h2, h3⟩⟩
  · exact ⟨false, rfl, .inr ⟨rfl, h2⟩⟩
theorem hgtQ_prefix (h m : Nat) : ∀ k, hgtQ h m <+: hgtQ h (m + k)
  | 0 => List.prefix_refl _
  | k + 1 => (hgtQ_prefix h m k).trans ⟨_, (hgtQ_succ h (m + k)).symm⟩
theorem rowQ_prefix (h b : Int) (m : Nat) : ∀ k, rowQ h b m <+: rowQ h b (m + k)
  | 0 => List.prefix_refl _
  | k + 1 => (rowQ_prefix h b m k).trans ⟨_, (rowQ_succ h b (m + k)).symm⟩
theorem two_prefix {h j i : Nat} (hj : j < h) (hi : i < h) : hgtQ h j ++ rowQ h ((j : Int) + 1) i ++ twoQ h ((i : Int) + 1) ((j : Int) + 1) <+: hgtQ h h := by
  have h1 := hgtQ_prefix h (j + 1) (h - (j + 1))
  rw [show j + 1 + (h - (j + 1)) = h from by omega, hgtQ_succ] at h1
  have h2 := rowQ_prefix h ((j : Int) + 1) (i + 1) (h - (i + 1))
  rw [show i + 1 + (h - (i + 1)) = h from by omega, rowQ_succ] at h2
  rw [List.append_assoc]
  exact ((List.prefix_append_right_inj _).2 h2).trans h1

set_option maxRecDepth 100000 in
set_option maxHeartbeats 4000000 in
theorem ofh_in (n : Nat) (hn : 1 ≤ n) (l bh lo hi h : Nat) (h1 : 1 ≤ h) (h16 : h ≤ 16) (hx1 : lo ≤ bh) (hx2 : bh < hi) (J Jx : List (Int × Int) → World → Prop) (B : Nat) (hJ : AbidesFrom B J)
    (hY : ∀ pre x W, J pre W → pre.length < (hgtQ h h).length → YieldAt Fence.wide (n - 1) Tryd.prog l (ptE x) W fun e W' =>
      (e = .returned (.bool true) ∧ J (pre ++ [x]) W' ∧ Keeps lo hi W W') ∨ (e = .returned (.bool false) ∧ Jx (pre ++ [x]) W'))
    (W : World) (hBx : W.cell? ⟨bh, 0, none⟩ = some (.int .i64 h)) (hsz : hi ≤ W.heap.size) (h0 : J [] W) :
    CallsIn Fence.wide n Tryd.prog 37 #[.func (.yield l) #[] #[], .pointer (some ⟨bh, 0, none⟩)] W fun e W' => (∃ v, e = .returned v) ∧
      ((∃ ys, ys = hgtQ h h ∧ J ys W') ∨ (∃ pre, pre <+: hgtQ h h ∧ Jx pre W')) := by
  have HY := hide hY
  have HJ := hide hJ
  clear hY hJ
  refine callsIn_of_wp Tryd.func37 rfl trivial ?_ rfl
  simp only [Tryd.ntmps37, List.size_toArray, List.length_cons, List.length_nil, Nat.reduceAdd, Nat.reduceSub, Array.replicate_succ, Array.replicate_zero, List.push_toArray, List.append_toArray, List.nil_append, List.cons_append]
  gi_wp2
  refine wpIn_wide.2 (wp_scope_straight ((wpIn_wide (n := n)).1 ?_))
  gi_wp2
  refine wpIn_label ?_
  gi_wp2
  gi_loopw [3, 4, 6] (fun bv _ _ wr => ∃ j : Nat, j ≤ h ∧ bv = .int .i64 ((j : Int) + 1) ∧ J (hgtQ h j) wr ∧ Keeps lo hi W wr) (fun bv _ _ _ => h + 1 - (intOf bv).toNat)
  case atStart => exact ⟨0, Nat.zero_le _, rfl, by simpa [hgtQ] using h0, Keeps.refl _ _ _⟩
  case round =>
    obtain ⟨j, hj, rfl, hJ, hK⟩ := hrel
    have JJ := hide hJ
    have KK := hide hK
    clear hJ hK
    have hcb := (KK.out.cell (o := 0) hx1 hx2).trans hBx
    by_cases hlj : j < h
    · have hc1 : (j : Int) + 1 ≤ (h : Int) := by omega
      gi_wp2
      gi_loopw [4, 6] (fun av _ wr => ∃ i : Nat, i ≤ h ∧ av = .int .i64 ((i : Int) + 1) ∧ J (hgtQ h j ++ rowQ h ((j : Int) + 1) i) wr ∧ Keeps lo hi W wr) (fun av _ _ => h + 1 - (intOf av).toNat)
      case atStart => exact ⟨0, Nat.zero_le _, rfl, by simpa [rowQ] using JJ.out, KK.out⟩
      case round =>
        clear hcb JJ KK
        obtain ⟨i, hi', rfl, hJ, hK⟩ := hrel
        have JJ := hide hJ
        have KK := hide hK
        clear hJ hK
        have hcb := (KK.out.cell (o := 0) hx1 hx2).trans hBx
        by_cases hli : i < h
        · have hc2 : (i : Int) + 1 ≤ (h : Int) := by omega
          by_cases ht : ((i : Int) + 1 = (h : Int) ∧ (j : Int) + 1 ≤ (h : Int)) ∨ ((j : Int) + 1 = (h : Int) ∧ (i : Int) + 1 ≤ (h : Int))
          · have TQ := hide (show twoQ h ((i : Int) + 1) ((j : Int) + 1) = _ from if_pos ht)
            by_cases hge : ((j : Int) + 1) ≤ ((i : Int) + 1)
            · have hmx : (((i : Int) + 1) != (h : Int)) = false := by simp; omega
              clear ht
              gi_wp2
              gi_loopw [6, 30] (fun _ tv wr => ∃ t : Nat, t ≤ 2 ∧ tv = .int .i64 (t : Int) ∧ J (hgtQ h j ++ rowQ h ((j : Int) + 1) i ++ upQ ((i : Int) + 1) ((j : Int) + 1) t) wr ∧ Keeps lo hi W wr) (fun _ tv _ => 3 - (intOf tv).toNat)
              case atStart => exact ⟨0, by decide, rfl, by simpa [upQ] using JJ.out, KK.out⟩
              case round =>
                clear hcb JJ KK
                obtain ⟨t, ht, rfl, hJ, hK⟩ := hrel
                have JJ := hide hJ
                have KK := hide hK
                clear hJ hK
                match t, ht with
                | 0, _ =>
                  have pix0 := Tryd.pix0
                  gi_wp2_with fail
                  have BX := hide (Box2.new wr 27 (.int .i64 ((i : Int) + 1)) (.int .i64 ((j : Int) + 1)))
                  have AL := hide (below_alloc wr (.cells #[.int .i64 ((i : Int) + 1), .int .i64 ((j : Int) + 1)] 27))
                  replace JJ := hide (abides HJ.out JJ.out AL.out)
                  replace KK := hide (KK.out.below AL.out (keeps_size KK.out (by omega) hsz))
                  clear AL pix0
                  generalize hw : wr.alloc (.cells #[.int .i64 ((i : Int) + 1), .int .i64 ((j : Int) + 1)] 27) = wz at *
                  clear hw
                  generalize wr.heap.size = gz at *
                  have PF := hide (two_prefix hlj hli)
                  rw [TQ.out] at PF
                  generalize hXX : hgtQ h j ++ rowQ h ((j : Int) + 1) i = X at *
                  have HX := hide hXX
                  clear hXX
                  by_cases hq : nA ((i : Int) + 1) ((j : Int) + 1) = ((i : Int) + 1) ∧ nB ((i : Int) + 1) ((j : Int) + 1) = ((j : Int) + 1)
                  · have c0 := BX.out.cell0
                    have c1 := BX.out.cell1
                    have EX : Hid (X ++ upQ ((i : Int) + 1) ((j : Int) + 1) 1 = X ++ upQ ((i : Int) + 1) ((j : Int) + 1) 0 ++ [(((i : Int) + 1), ((j : Int) + 1))]) := hide (by rw [List.append_assoc]; congr 1; show upQ ((i : Int) + 1) ((j : Int) + 1) 1 = _; show oneQ _ _ = [] ++ _; rw [show oneQ ((i : Int) + 1) ((j : Int) + 1) = [(((i : Int) + 1), ((j : Int) + 1))] from if_pos hq]; rfl)
                    have PX : Hid (X ++ upQ ((i : Int) + 1) ((j : Int) + 1) 0 ++ [(((i : Int) + 1), ((j : Int) + 1))] <+: hgtQ h h) := hide (by rw [← EX.out]; exact List.IsPrefix.trans ((List.prefix_append_right_inj _).2 (upQ_prefix _ _ 1)) PF.out)
                    have PLEN : Hid ((X ++ upQ ((i : Int) + 1) ((j : Int) + 1) 0).length < (hgtQ h h).length) := hide (by have := PX.out.length_le; rw [List.length_append, List.length_singleton] at this; omega)
                    have NM : Hid (∀ w0, Calls Tryd.prog 25 #[.agg #[.int .i64 ((i : Int) + 1), .int .i64 ((j : Int) + 1)]] w0 fun e w' => e = .returned (.agg #[.int .i64 ((i : Int) + 1), .int .i64 ((j : Int) + 1)]) ∧ Below w0.heap.size w0 w') := hide (fun w0 => by
                      refine (norm0_any _ _ w0 (by omega) (by omega) (by omega) (by omega)).mono ?_
                      rintro e w' ⟨rfl, hb⟩
                      rw [hq.1, hq.2]; exact ⟨rfl, hb⟩)
                    clear hq
                    gi_region_with (first | (refine ⟨trivial, ?_⟩; refine (callsIn_wide.2 (NM.out _)).mono ?_; rintro e w1 ⟨rfl, hb⟩; clear c0 c1; have c0 := (BX.out.drew.step hb).cell0; have c1 := (BX.out.drew.step hb).cell1; have HBn := hide (((Below.refl wz.heap.size wz).drew).trans hb); obtain ⟨fn, tm, asg, bdy, hy, hRd⟩ := yield_went HY.out ((i : Int) + 1) ((j : Int) + 1) (abides HJ.out JJ.out HBn.out) PLEN.out; have HRD := hide hRd; clear hRd hb) | (refine HRD.out.mono ?_; rintro e w3 ⟨q, rfl, hG⟩; have GG := hide hG; clear hG))
                    all_goals
                      clear hy c0 c1
                      try simp only [Act.put]
                      cases q with
                      | true =>
                        obtain ⟨hJ2, hK2⟩ := went_on GG.out
                        have J2 := hide hJ2
                        have K2 := hide ((KK.out.below HBn.out (keeps_size KK.out (by omega) hsz)).trans hK2)
                        clear hJ2 hK2
                        gi_wp2
                        go_roundw
                        case rel => exact ⟨1, by decide, by go_num, by rw [HX.out, EX.out]; exact J2.out, K2.out⟩
                        case measure => simp [intOf]
                      | false =>
                        have hJx := went_off GG.out
                        gi_wp2
                        go_end0
                        exact ⟨⟨_, rfl⟩, .inr ⟨_, PX.out, hJx⟩⟩
                  · have EX : Hid (X ++ upQ ((i : Int) + 1) ((j : Int) + 1) 1 = X ++ upQ ((i : Int) + 1) ((j : Int) + 1) 0) := hide (by congr 1; show oneQ _ _ = []; rw [show oneQ ((i : Int) + 1) ((j : Int) + 1) = [] from if_neg hq])
                    have c0 := BX.out.cell0
                    have c1 := BX.out.cell1
                    obtain ⟨p, hp⟩ : ∃ p, nA ((i : Int) + 1) ((j : Int) + 1) = p := ⟨_, rfl⟩
                    obtain ⟨q, hqq⟩ : ∃ q, nB ((i : Int) + 1) ((j : Int) + 1) = q := ⟨_, rfl⟩
                    rw [hp, hqq] at hq
                    have NM : Hid (∀ w0, Calls Tryd.prog 25 #[.agg #[.int .i64 ((i : Int) + 1), .int .i64 ((j : Int) + 1)]] w0 fun e w' => e = .returned (.agg #[.int .i64 p, .int .i64 q]) ∧ Below w0.heap.size w0 w') := hide (fun w0 => by
                      refine (norm0_any _ _ w0 (by omega) (by omega) (by omega) (by omega)).mono ?_
                      rintro e w' ⟨rfl, hb⟩
                      rw [hp, hqq]; exact ⟨rfl, hb⟩)
                    clear hp hqq
                    have hne : (p == ((i : Int) + 1) && q == ((j : Int) + 1)) = false := by simpa using hq
                    by_cases hp : p = ((i : Int) + 1)
                    · have hq3 : ¬ q = ((j : Int) + 1) := fun e => hq ⟨hp, e⟩
                      have hq4 : (q == ((j : Int) + 1)) = false := by simpa using hq3
                      subst hp
                      clear hq hne
                      clear c0 c1
                      refine wpIn_wide.2 ?_
                      refine wp_calm (fun w' => Below wz.heap.size wz w') (fun _ => true) 10 #[false, false, false, false, false, false, false, false, false, false] (by kernel_rfl) rfl rfl ?_
                      have HF := hide ((Below.refl wz.heap.size wz).drew)
                      generalize wz.drew = wzd at *
                      refine Calm.take (i := 0) (v := ?_) (a' := ?_) (l' := #[true, false, false, false, false, false, false, false, false, false]) (d := some 33) rfl (by kernel_rfl) (by kernel_rfl) (by kernel_rfl) (by kernel_rfl) (fun _ _ _ h => h) HF.out rfl ?_ rfl rfl ?_ ?_
                      rotate_left
                      · intro w' hF; have f0 := (BX.out.step hF).cell0; have f1 := (BX.out.step hF).cell1; clear hF; go_simp; try rfl
                      rotate_left
                      · simp only [Act.put]; exact rfl
                      refine Calm.take (i := 2) (v := ?_) (a' := ?_) (l' := #[true, false, true, false, false, false, false, false, false, false]) (d := some 35) rfl (by kernel_rfl) (by kernel_rfl) (by kernel_rfl) (by kernel_rfl) (fun _ _ _ h => h) HF.out rfl ?_ rfl rfl ?_ ?_
                      rotate_left
                      · intro w' hF; have f0 := (BX.out.step hF).cell0; have f1 := (BX.out.step hF).cell1; clear hF; go_simp; try rfl
                      rotate_left
                      · simp only [Act.put]; exact rfl
                      refine Calm.one (i := 1) (l' := #[true, true, true, false, false, false, false, false, false, false]) (by kernel_rfl) rfl rfl rfl fun K hK => ?_
                      go_simp
                      refine (NM.out _).mono ?_
                      rintro e w1 ⟨rfl, hb⟩
                      have HF' := hide (HF.out.trans ((hb).mono HF.out.size))
                      refine hK _ _ (fun _ => HF'.out) ?_
                      clear hK K HF hb
                      have HF := hide HF'.out
                      clear HF'
                      refine Calm.take (i := 3) (v := ?_) (a' := ?_) (l' := #[true, true, true, true, false, false, false, false, false, false]) (d := some 36) rfl (by kernel_rfl) (by kernel_rfl) (by kernel_rfl) (by kernel_rfl) (fun _ _ _ h => h) HF.out rfl ?_ rfl rfl ?_ ?_
                      rotate_left
                      · intro w' hF; clear hF; go_simp; try rfl
                      rotate_left
                      · simp only [Act.put]; exact rfl
                      refine Calm.take (i := 4) (v := ?_) (a' := ?_) (l' := #[true, true, true, true, true, false, false, false, false, false]) (d := some 37) rfl (by kernel_rfl) (by kernel_rfl) (by kernel_rfl) (by kernel_rfl) (fun _ _ _ h => h) HF.out rfl ?_ rfl rfl ?_ ?_
                      rotate_left
                      · intro w' hF; clear hF; go_simp; try rfl
                      rotate_left
                      · simp only [Act.put]; exact rfl
                      refine Calm.skipP (i := 5) (a' := ?_) (l' := #[true, true, true, true, true, true, false, false, false, false]) (d := some 38) rfl (by kernel_rfl) (by kernel_rfl) (by kernel_rfl) (by kernel_rfl) (fun _ _ _ h => h) HF.out (by kernel_rfl) rfl rfl ?_ ?_
                      rotate_left
                      · simp only [Act.put]; exact rfl
                      refine Calm.skipP (i := 6) (a' := ?_) (l' := #[true, true, true, true, true, true, true, false, false, false]) (d := some 39) rfl (by kernel_rfl) (by kernel_rfl) (by kernel_rfl) (by kernel_rfl) (fun _ _ _ h => h) HF.out (by kernel_rfl) rfl rfl ?_ ?_
                      rotate_left
                      · simp only [Act.put]; exact rfl
                      refine Calm.skipP (i := 7) (a' := ?_) (l' := #[true, true, true, true, true, true, true, true, false, false]) (d := some 40) rfl (by kernel_rfl) (by kernel_rfl) (by kernel_rfl) (by kernel_rfl) (fun _ _ _ h => h) HF.out (by kernel_rfl) rfl rfl ?_ ?_
                      rotate_left
                      · simp only [Act.put]; exact rfl
                      refine Calm.skipP (i := 8) (a' := ?_) (l' := #[true, true, true, true, true, true, true, true, true, false]) (d := some 41) rfl (by kernel_rfl) (by kernel_rfl) (by kernel_rfl) (by kernel_rfl) (fun _ _ _ h => h) HF.out (by kernel_rfl) rfl rfl ?_ ?_
                      rotate_left
                      · simp only [Act.put]; exact rfl
                      refine Calm.take (i := 9) (v := ?_) (a' := ?_) (l' := #[true, true, true, true, true, true, true, true, true, true]) (d := some 42) rfl (by kernel_rfl) (by kernel_rfl) (by kernel_rfl) (by kernel_rfl) (fun _ _ _ h => h) HF.out rfl ?_ rfl rfl ?_ ?_
                      rotate_left
                      · intro w' hF; clear hF; go_simp; try rfl
                      rotate_left
                      · simp only [Act.put]; exact rfl
                      refine Calm.done (by kernel_rfl) ?_
                      have J2 := hide (abides HJ.out JJ.out HF.out)
                      have K2 := hide (KK.out.below HF.out (keeps_size KK.out (by omega) hsz))
                      simp only [List.setIfInBounds_toArray, List.set_cons_succ, List.set_cons_zero]
                      gi_wp2
                      go_roundw
                      case rel => exact ⟨1, by decide, by go_num, by rw [HX.out, EX.out]; exact J2.out, K2.out⟩
                      case measure => simp [intOf]
                    · have hp4 : (p == ((i : Int) + 1)) = false := by simpa using hp
                      clear hq hne
                      clear c0 c1
                      refine wpIn_wide.2 ?_
                      refine wp_calm (fun w' => Below wz.heap.size wz w') (fun _ => true) 10 #[false, false, false, false, false, false, false, false, false, false] (by kernel_rfl) rfl rfl ?_
                      have HF := hide ((Below.refl wz.heap.size wz).drew)
                      generalize wz.drew = wzd at *
                      refine Calm.take (i := 0) (v := ?_) (a' := ?_) (l' := #[true, false, false, false, false, false, false, false, false, false]) (d := some 33) rfl (by kernel_rfl) (by kernel_rfl) (by kernel_rfl) (by kernel_rfl) (fun _ _ _ h => h) HF.out rfl ?_ rfl rfl ?_ ?_
                      rotate_left
                      · intro w' hF; have f0 := (BX.out.step hF).cell0; have f1 := (BX.out.step hF).cell1; clear hF; go_simp; try rfl
                      rotate_left
                      · simp only [Act.put]; exact rfl
                      refine Calm.take (i := 2) (v := ?_) (a' := ?_) (l' := #[true, false, true, false, false, false, false, false, false, false]) (d := some 35) rfl (by kernel_rfl) (by kernel_rfl) (by kernel_rfl) (by kernel_rfl) (fun _ _ _ h => h) HF.out rfl ?_ rfl rfl ?_ ?_
                      rotate_left
                      · intro w' hF; have f0 := (BX.out.step hF).cell0; have f1 := (BX.out.step hF).cell1; clear hF; go_simp; try rfl
                      rotate_left
                      · simp only [Act.put]; exact rfl
                      refine Calm.one (i := 1) (l' := #[true, true, true, false, false, false, false, false, false, false]) (by kernel_rfl) rfl rfl rfl fun K hK => ?_
                      go_simp
                      refine (NM.out _).mono ?_
                      rintro e w1 ⟨rfl, hb⟩
                      have HF' := hide (HF.out.trans ((hb).mono HF.out.size))
                      refine hK _ _ (fun _ => HF'.out) ?_
                      clear hK K HF hb
                      have HF := hide HF'.out
                      clear HF'
                      refine Calm.take (i := 3) (v := ?_) (a' := ?_) (l' := #[true, true, true, true, false, false, false, false, false, false]) (d := some 36) rfl (by kernel_rfl) (by kernel_rfl) (by kernel_rfl) (by kernel_rfl) (fun _ _ _ h => h) HF.out rfl ?_ rfl rfl ?_ ?_
                      rotate_left
                      · intro w' hF; clear hF; go_simp; try rfl
                      rotate_left
                      · simp only [Act.put]; exact rfl
                      refine Calm.take (i := 4) (v := ?_) (a' := ?_) (l' := #[true, true, true, true, true, false, false, false, false, false]) (d := some 37) rfl (by kernel_rfl) (by kernel_rfl) (by kernel_rfl) (by kernel_rfl) (fun _ _ _ h => h) HF.out rfl ?_ rfl rfl ?_ ?_
                      rotate_left
                      · intro w' hF; clear hF; go_simp; try rfl
                      rotate_left
                      · simp only [Act.put]; exact rfl
                      refine Calm.skipP (i := 5) (a' := ?_) (l' := #[true, true, true, true, true, true, false, false, false, false]) (d := some 38) rfl (by kernel_rfl) (by kernel_rfl) (by kernel_rfl) (by kernel_rfl) (fun _ _ _ h => h) HF.out (by kernel_rfl) rfl rfl ?_ ?_
                      rotate_left
                      · simp only [Act.put]; exact rfl
                      refine Calm.skipP (i := 6) (a' := ?_) (l' := #[true, true, true, true, true, true, true, false, false, false]) (d := some 39) rfl (by kernel_rfl) (by kernel_rfl) (by kernel_rfl) (by kernel_rfl) (fun _ _ _ h => h) HF.out (by kernel_rfl) rfl rfl ?_ ?_
                      rotate_left
                      · simp only [Act.put]; exact rfl
                      refine Calm.skipP (i := 7) (a' := ?_) (l' := #[true, true, true, true, true, true, true, true, false, false]) (d := some 40) rfl (by kernel_rfl) (by kernel_rfl) (by kernel_rfl) (by kernel_rfl) (fun _ _ _ h => h) HF.out (by kernel_rfl) rfl rfl ?_ ?_
                      rotate_left
                      · simp only [Act.put]; exact rfl
                      refine Calm.skipP (i := 8) (a' := ?_) (l' := #[true, true, true, true, true, true, true, true, true, false]) (d := some 41) rfl (by kernel_rfl) (by kernel_rfl) (by kernel_rfl) (by kernel_rfl) (fun _ _ _ h => h) HF.out (by kernel_rfl) rfl rfl ?_ ?_
                      rotate_left
                      · simp only [Act.put]; exact rfl
                      refine Calm.take (i := 9) (v := ?_) (a' := ?_) (l' := #[true, true, true, true, true, true, true, true, true, true]) (d := some 42) rfl (by kernel_rfl) (by kernel_rfl) (by kernel_rfl) (by kernel_rfl) (fun _ _ _ h => h) HF.out rfl ?_ rfl rfl ?_ ?_
                      rotate_left
                      · intro w' hF; clear hF; go_simp; try rfl
                      rotate_left
                      · simp only [Act.put]; exact rfl
                      refine Calm.done (by kernel_rfl) ?_
                      have J2 := hide (abides HJ.out JJ.out HF.out)
                      have K2 := hide (KK.out.below HF.out (keeps_size KK.out (by omega) hsz))
                      simp only [List.setIfInBounds_toArray, List.set_cons_succ, List.set_cons_zero]
                      gi_wp2
                      go_roundw
                      case rel => exact ⟨1, by decide, by go_num, by rw [HX.out, EX.out]; exact J2.out, K2.out⟩
                      case measure => simp [intOf]
                | 1, _ =>
                  have pix1 := Tryd.pix1
                  gi_wp2_with fail
                  have BX := hide (Box2.new wr 27 (.int .i64 (-((i : Int) + 1))) (.int .i64 ((j : Int) + 1)))
                  have AL := hide (below_alloc wr (.cells #[.int .i64 (-((i : Int) + 1)), .int .i64 ((j : Int) + 1)] 27))
                  replace JJ := hide (abides HJ.out JJ.out AL.out)
                  replace KK := hide (KK.out.below AL.out (keeps_size KK.out (by omega) hsz))
                  clear AL pix1
                  generalize hw : wr.alloc (.cells #[.int .i64 (-((i : Int) + 1)), .int .i64 ((j : Int) + 1)] 27) = wz at *
                  clear hw
                  generalize wr.heap.size = gz at *
                  have PF := hide (two_prefix hlj hli)
                  rw [TQ.out] at PF
                  generalize hXX : hgtQ h j ++ rowQ h ((j : Int) + 1) i = X at *
                  have HX := hide hXX
                  clear hXX
                  by_cases hq : nA (-((i : Int) + 1)) ((j : Int) + 1) = (-((i : Int) + 1)) ∧ nB (-((i : Int) + 1)) ((j : Int) + 1) = ((j : Int) + 1)
                  · have c0 := BX.out.cell0
                    have c1 := BX.out.cell1
                    have EX : Hid (X ++ upQ ((i : Int) + 1) ((j : Int) + 1) 2 = X ++ upQ ((i : Int) + 1) ((j : Int) + 1) 1 ++ [((-((i : Int) + 1)), ((j : Int) + 1))]) := hide (by rw [List.append_assoc]; congr 1; show upQ ((i : Int) + 1) ((j : Int) + 1) 2 = _; show oneQ _ _ ++ oneQ _ _ = oneQ _ _ ++ _; rw [show oneQ (-((i : Int) + 1)) ((j : Int) + 1) = [((-((i : Int) + 1)), ((j : Int) + 1))] from if_pos hq])
                    have PX : Hid (X ++ upQ ((i : Int) + 1) ((j : Int) + 1) 1 ++ [((-((i : Int) + 1)), ((j : Int) + 1))] <+: hgtQ h h) := hide (by rw [← EX.out]; exact List.IsPrefix.trans ((List.prefix_append_right_inj _).2 (upQ_prefix _ _ 2)) PF.out)
                    have PLEN : Hid ((X ++ upQ ((i : Int) + 1) ((j : Int) + 1) 1).length < (hgtQ h h).length) := hide (by have := PX.out.length_le; rw [List.length_append, List.length_singleton] at this; omega)
                    have NM : Hid (∀ w0, Calls Tryd.prog 25 #[.agg #[.int .i64 (-((i : Int) + 1)), .int .i64 ((j : Int) + 1)]] w0 fun e w' => e = .returned (.agg #[.int .i64 (-((i : Int) + 1)), .int .i64 ((j : Int) + 1)]) ∧ Below w0.heap.size w0 w') := hide (fun w0 => by
                      refine (norm0_any _ _ w0 (by omega) (by omega) (by omega) (by omega)).mono ?_
                      rintro e w' ⟨rfl, hb⟩
                      rw [hq.1, hq.2]; exact ⟨rfl, hb⟩)
                    clear hq
                    gi_region_with (first | (refine ⟨trivial, ?_⟩; refine (callsIn_wide.2 (NM.out _)).mono ?_; rintro e w1 ⟨rfl, hb⟩; clear c0 c1; have c0 := (BX.out.drew.step hb).cell0; have c1 := (BX.out.drew.step hb).cell1; have HBn := hide (((Below.refl wz.heap.size wz).drew).trans hb); obtain ⟨fn, tm, asg, bdy, hy, hRd⟩ := yield_went HY.out (-((i : Int) + 1)) ((j : Int) + 1) (abides HJ.out JJ.out HBn.out) PLEN.out; have HRD := hide hRd; clear hRd hb) | (refine HRD.out.mono ?_; rintro e w3 ⟨q, rfl, hG⟩; have GG := hide hG; clear hG))
                    all_goals
                      clear hy c0 c1
                      try simp only [Act.put]
                      cases q with
                      | true =>
                        obtain ⟨hJ2, hK2⟩ := went_on GG.out
                        have J2 := hide hJ2
                        have K2 := hide ((KK.out.below HBn.out (keeps_size KK.out (by omega) hsz)).trans hK2)
                        clear hJ2 hK2
                        gi_wp2
                        go_roundw
                        case rel => exact ⟨2, by decide, by go_num, by rw [HX.out, EX.out]; exact J2.out, K2.out⟩
                        case measure => simp [intOf]
                      | false =>
                        have hJx := went_off GG.out
                        gi_wp2
                        go_end0
                        exact ⟨⟨_, rfl⟩, .inr ⟨_, PX.out, hJx⟩⟩
                  · have EX : Hid (X ++ upQ ((i : Int) + 1) ((j : Int) + 1) 2 = X ++ upQ ((i : Int) + 1) ((j : Int) + 1) 1) := hide (by congr 1; show oneQ _ _ ++ oneQ _ _ = oneQ _ _; rw [show oneQ (-((i : Int) + 1)) ((j : Int) + 1) = [] from if_neg hq]; simp)
                    have c0 := BX.out.cell0
                    have c1 := BX.out.cell1
                    obtain ⟨p, hp⟩ : ∃ p, nA (-((i : Int) + 1)) ((j : Int) + 1) = p := ⟨_, rfl⟩
                    obtain ⟨q, hqq⟩ : ∃ q, nB (-((i : Int) + 1)) ((j : Int) + 1) = q := ⟨_, rfl⟩
                    rw [hp, hqq] at hq
                    have NM : Hid (∀ w0, Calls Tryd.prog 25 #[.agg #[.int .i64 (-((i : Int) + 1)), .int .i64 ((j : Int) + 1)]] w0 fun e w' => e = .returned (.agg #[.int .i64 p, .int .i64 q]) ∧ Below w0.heap.size w0 w') := hide (fun w0 => by
                      refine (norm0_any _ _ w0 (by omega) (by omega) (by omega) (by omega)).mono ?_
                      rintro e w' ⟨rfl, hb⟩
                      rw [hp, hqq]; exact ⟨rfl, hb⟩)
                    clear hp hqq
                    have hne : (p == (-((i : Int) + 1)) && q == ((j : Int) + 1)) = false := by simpa using hq
                    by_cases hp : p = (-((i : Int) + 1))
                    · have hq3 : ¬ q = ((j : Int) + 1) := fun e => hq ⟨hp, e⟩
                      have hq4 : (q == ((j : Int) + 1)) = false := by simpa using hq3
                      subst hp
                      clear hq hne
                      clear c0 c1
                      refine wpIn_wide.2 ?_
                      refine wp_calm (fun w' => Below wz.heap.size wz w') (fun _ => true) 10 #[false, false, false, false, false, false, false, false, false, false] (by kernel_rfl) rfl rfl ?_
                      have HF := hide ((Below.refl wz.heap.size wz).drew)
                      generalize wz.drew = wzd at *
                      refine Calm.take (i := 0) (v := ?_) (a' := ?_) (l' := #[true, false, false, false, false, false, false, false, false, false]) (d := some 33) rfl (by kernel_rfl) (by kernel_rfl) (by kernel_rfl) (by kernel_rfl) (fun _ _ _ h => h) HF.out rfl ?_ rfl rfl ?_ ?_
                      rotate_left
                      · intro w' hF; have f0 := (BX.out.step hF).cell0; have f1 := (BX.out.step hF).cell1; clear hF; go_simp; try rfl
                      rotate_left
                      · simp only [Act.put]; exact rfl
                      refine Calm.take (i := 2) (v := ?_) (a' := ?_) (l' := #[true, false, true, false, false, false, false, false, false, false]) (d := some 35) rfl (by kernel_rfl) (by kernel_rfl) (by kernel_rfl) (by kernel_rfl) (fun _ _ _ h => h) HF.out rfl ?_ rfl rfl ?_ ?_
                      rotate_left
                      · intro w' hF; have f0 := (BX.out.step hF).cell0; have f1 := (BX.out.step hF).cell1; clear hF; go_simp; try rfl
                      rotate_left
                      · simp only [Act.put]; exact rfl
                      refine Calm.one (i := 1) (l' := #[true, true, true, false, false, false, false, false, false, false]) (by kernel_rfl) rfl rfl rfl fun K hK => ?_
                      go_simp
                      refine (NM.out _).mono ?_
                      rintro e w1 ⟨rfl, hb⟩
                      have HF' := hide (HF.out.trans ((hb).mono HF.out.size))
                      refine hK _ _ (fun _ => HF'.out) ?_
                      clear hK K HF hb
                      have HF := hide HF'.out
                      clear HF'
                      refine Calm.take (i := 3) (v := ?_) (a' := ?_) (l' := #[true, true, true, true, false, false, false, false, false, false]) (d := some 36) rfl (by kernel_rfl) (by kernel_rfl) (by kernel_rfl) (by kernel_rfl) (fun _ _ _ h => h) HF.out rfl ?_ rfl rfl ?_ ?_
                      rotate_left
                      · intro w' hF; clear hF; go_simp; try rfl
                      rotate_left
                      · simp only [Act.put]; exact rfl
                      refine Calm.take (i := 4) (v := ?_) (a' := ?_) (l' := #[true, true, true, true, true, false, false, false, false, false]) (d := some 37) rfl (by kernel_rfl) (by kernel_rfl) (by kernel_rfl) (by kernel_rfl) (fun _ _ _ h => h) HF.out rfl ?_ rfl rfl ?_ ?_
                      rotate_left
                      · intro w' hF; clear hF; go_simp; try rfl
                      rotate_left
                      · simp only [Act.put]; exact rfl
                      refine Calm.skipP (i := 5) (a' := ?_) (l' := #[true, true, true, true, true, true, false, false, false, false]) (d := some 38) rfl (by kernel_rfl) (by kernel_rfl) (by kernel_rfl) (by kernel_rfl) (fun _ _ _ h => h) HF.out (by kernel_rfl) rfl rfl ?_ ?_
                      rotate_left
                      · simp only [Act.put]; exact rfl
                      refine Calm.skipP (i := 6) (a' := ?_) (l' := #[true, true, true, true, true, true, true, false, false, false]) (d := some 39) rfl (by kernel_rfl) (by kernel_rfl) (by kernel_rfl) (by kernel_rfl) (fun _ _ _ h => h) HF.out (by kernel_rfl) rfl rfl ?_ ?_
                      rotate_left
                      · simp only [Act.put]; exact rfl
                      refine Calm.skipP (i := 7) (a' := ?_) (l' := #[true, true, true, true, true, true, true, true, false, false]) (d := some 40) rfl (by kernel_rfl) (by kernel_rfl) (by kernel_rfl) (by kernel_rfl) (fun _ _ _ h => h) HF.out (by kernel_rfl) rfl rfl ?_ ?_
                      rotate_left
                      · simp only [Act.put]; exact rfl
                      refine Calm.skipP (i := 8) (a' := ?_) (l' := #[true, true, true, true, true, true, true, true, true, false]) (d := some 41) rfl (by kernel_rfl) (by kernel_rfl) (by kernel_rfl) (by kernel_rfl) (fun _ _ _ h => h) HF.out (by kernel_rfl) rfl rfl ?_ ?_
                      rotate_left
                      · simp only [Act.put]; exact rfl
                      refine Calm.take (i := 9) (v := ?_) (a' := ?_) (l' := #[true, true, true, true, true, true, true, true, true, true]) (d := some 42) rfl (by kernel_rfl) (by kernel_rfl) (by kernel_rfl) (by kernel_rfl) (fun _ _ _ h => h) HF.out rfl ?_ rfl rfl ?_ ?_
                      rotate_left
                      · intro w' hF; clear hF; go_simp; try rfl
                      rotate_left
                      · simp only [Act.put]; exact rfl
                      refine Calm.done (by kernel_rfl) ?_
                      have J2 := hide (abides HJ.out JJ.out HF.out)
                      have K2 := hide (KK.out.below HF.out (keeps_size KK.out (by omega) hsz))
                      simp only [List.setIfInBounds_toArray, List.set_cons_succ, List.set_cons_zero]
                      gi_wp2
                      go_roundw
                      case rel => exact ⟨2, by decide, by go_num, by rw [HX.out, EX.out]; exact J2.out, K2.out⟩
                      case measure => simp [intOf]
                    · have hp4 : (p == (-((i : Int) + 1))) = false := by simpa using hp
                      clear hq hne
                      clear c0 c1
                      refine wpIn_wide.2 ?_
                      refine wp_calm (fun w' => Below wz.heap.size wz w') (fun _ => true) 10 #[false, false, false, false, false, false, false, false, false, false] (by kernel_rfl) rfl rfl ?_
                      have HF := hide ((Below.refl wz.heap.size wz).drew)
                      generalize wz.drew = wzd at *
                      refine Calm.take (i := 0) (v := ?_) (a' := ?_) (l' := #[true, false, false, false, false, false, false, false, false, false]) (d := some 33) rfl (by kernel_rfl) (by kernel_rfl) (by kernel_rfl) (by kernel_rfl) (fun _ _ _ h => h) HF.out rfl ?_ rfl rfl ?_ ?_
                      rotate_left
                      · intro w' hF; have f0 := (BX.out.step hF).cell0; have f1 := (BX.out.step hF).cell1; clear hF; go_simp; try rfl
                      rotate_left
                      · simp only [Act.put]; exact rfl
                      refine Calm.take (i := 2) (v := ?_) (a' := ?_) (l' := #[true, false, true, false, false, false, false, false, false, false]) (d := some 35) rfl (by kernel_rfl) (by kernel_rfl) (by kernel_rfl) (by kernel_rfl) (fun _ _ _ h => h) HF.out rfl ?_ rfl rfl ?_ ?_
                      rotate_left
                      · intro w' hF; have f0 := (BX.out.step hF).cell0; have f1 := (BX.out.step hF).cell1; clear hF; go_simp; try rfl
                      rotate_left
                      · simp only [Act.put]; exact rfl
                      refine Calm.one (i := 1) (l' := #[true, true, true, false, false, false, false, false, false, false]) (by kernel_rfl) rfl rfl rfl fun K hK => ?_
                      go_simp
                      refine (NM.out _).mono ?_
                      rintro e w1 ⟨rfl, hb⟩
                      have HF' := hide (HF.out.trans ((hb).mono HF.out.size))
                      refine hK _ _ (fun _ => HF'.out) ?_
                      clear hK K HF hb
                      have HF := hide HF'.out
                      clear HF'
                      refine Calm.take (i := 3) (v := ?_) (a' := ?_) (l' := #[true, true, true, true, false, false, false, false, false, false]) (d := some 36) rfl (by kernel_rfl) (by kernel_rfl) (by kernel_rfl) (by kernel_rfl) (fun _ _ _ h => h) HF.out rfl ?_ rfl rfl ?_ ?_
                      rotate_left
                      · intro w' hF; clear hF; go_simp; try rfl
                      rotate_left
                      · simp only [Act.put]; exact rfl
                      refine Calm.take (i := 4) (v := ?_) (a' := ?_) (l' := #[true, true, true, true, true, false, false, false, false, false]) (d := some 37) rfl (by kernel_rfl) (by kernel_rfl) (by kernel_rfl) (by kernel_rfl) (fun _ _ _ h => h) HF.out rfl ?_ rfl rfl ?_ ?_
                      rotate_left
                      · intro w' hF; clear hF; go_simp; try rfl
                      rotate_left
                      · simp only [Act.put]; exact rfl
                      refine Calm.skipP (i := 5) (a' := ?_) (l' := #[true, true, true, true, true, true, false, false, false, false]) (d := some 38) rfl (by kernel_rfl) (by kernel_rfl) (by kernel_rfl) (by kernel_rfl) (fun _ _ _ h => h) HF.out (by kernel_rfl) rfl rfl ?_ ?_
                      rotate_left
                      · simp only [Act.put]; exact rfl
                      refine Calm.skipP (i := 6) (a' := ?_) (l' := #[true, true, true, true, true, true, true, false, false, false]) (d := some 39) rfl (by kernel_rfl) (by kernel_rfl) (by kernel_rfl) (by kernel_rfl) (fun _ _ _ h => h) HF.out (by kernel_rfl) rfl rfl ?_ ?_
                      rotate_left
                      · simp only [Act.put]; exact rfl
                      refine Calm.skipP (i := 7) (a' := ?_) (l' := #[true, true, true, true, true, true, true, true, false, false]) (d := some 40) rfl (by kernel_rfl) (by kernel_rfl) (by kernel_rfl) (by kernel_rfl) (fun _ _ _ h => h) HF.out (by kernel_rfl) rfl rfl ?_ ?_
                      rotate_left
                      · simp only [Act.put]; exact rfl
                      refine Calm.skipP (i := 8) (a' := ?_) (l' := #[true, true, true, true, true, true, true, true, true, false]) (d := some 41) rfl (by kernel_rfl) (by kernel_rfl) (by kernel_rfl) (by kernel_rfl) (fun _ _ _ h => h) HF.out (by kernel_rfl) rfl rfl ?_ ?_
                      rotate_left
                      · simp only [Act.put]; exact rfl
                      refine Calm.take (i := 9) (v := ?_) (a' := ?_) (l' := #[true, true, true, true, true, true, true, true, true, true]) (d := some 42) rfl (by kernel_rfl) (by kernel_rfl) (by kernel_rfl) (by kernel_rfl) (fun _ _ _ h => h) HF.out rfl ?_ rfl rfl ?_ ?_
                      rotate_left
                      · intro w' hF; clear hF; go_simp; try rfl
                      rotate_left
                      · simp only [Act.put]; exact rfl
                      refine Calm.done (by kernel_rfl) ?_
                      have J2 := hide (abides HJ.out JJ.out HF.out)
                      have K2 := hide (KK.out.below HF.out (keeps_size KK.out (by omega) hsz))
                      simp only [List.setIfInBounds_toArray, List.set_cons_succ, List.set_cons_zero]
                      gi_wp2
                      go_roundw
                      case rel => exact ⟨2, by decide, by go_num, by rw [HX.out, EX.out]; exact J2.out, K2.out⟩
                      case measure => simp [intOf]
                | 2, _ =>
                  have EX : Hid (hgtQ h j ++ rowQ h ((j : Int) + 1) (i + 1) = hgtQ h j ++ rowQ h ((j : Int) + 1) i ++ upQ ((i : Int) + 1) ((j : Int) + 1) 2) := hide (by rw [rowQ_succ, TQ.out, List.append_assoc]; rfl)
                  gi_wp2
                  go_roundw
                  case rel => exact ⟨i + 1, by omega, by go_num, by rw [EX.out]; exact JJ.out, KK.out⟩
                  case measure => simp [intOf]; omega
            · have hmx : (((j : Int) + 1) != (h : Int)) = false := by simp; omega
              clear ht
              gi_wp2
              gi_loopw [6, 30] (fun _ tv wr => ∃ t : Nat, t ≤ 2 ∧ tv = .int .i64 (t : Int) ∧ J (hgtQ h j ++ rowQ h ((j : Int) + 1) i ++ upQ ((i : Int) + 1) ((j : Int) + 1) t) wr ∧ Keeps lo hi W wr) (fun _ tv _ => 3 - (intOf tv).toNat)
              case atStart => exact ⟨0, by decide, rfl, by simpa [upQ] using JJ.out, KK.out⟩
              case round =>
                clear hcb JJ KK
                obtain ⟨t, ht, rfl, hJ, hK⟩ := hrel
                have JJ := hide hJ
                have KK := hide hK
                clear hJ hK
                match t, ht with
                | 0, _ =>
                  have pix0 := Tryd.pix0
                  gi_wp2_with fail
                  have BX := hide (Box2.new wr 27 (.int .i64 ((i : Int) + 1)) (.int .i64 ((j : Int) + 1)))
                  have AL := hide (below_alloc wr (.cells #[.int .i64 ((i : Int) + 1), .int .i64 ((j : Int) + 1)] 27))
                  replace JJ := hide (abides HJ.out JJ.out AL.out)
                  replace KK := hide (KK.out.below AL.out (keeps_size KK.out (by omega) hsz))
                  clear AL pix0
                  generalize hw : wr.alloc (.cells #[.int .i64 ((i : Int) + 1), .int .i64 ((j : Int) + 1)] 27) = wz at *
                  clear hw
                  generalize wr.heap.size = gz at *
                  have PF := hide (two_prefix hlj hli)
                  rw [TQ.out] at PF
                  generalize hXX : hgtQ h j ++ rowQ h ((j : Int) + 1) i = X at *
                  have HX := hide hXX
                  clear hXX
                  by_cases hq : nA ((i : Int) + 1) ((j : Int) + 1) = ((i : Int) + 1) ∧ nB ((i : Int) + 1) ((j : Int) + 1) = ((j : Int) + 1)
                  · have c0 := BX.out.cell0
                    have c1 := BX.out.cell1
                    have EX : Hid (X ++ upQ ((i : Int) + 1) ((j : Int) + 1) 1 = X ++ upQ ((i : Int) + 1) ((j : Int) + 1) 0 ++ [(((i : Int) + 1), ((j : Int) + 1))]) := hide (by rw [List.append_assoc]; congr 1; show upQ ((i : Int) + 1) ((j : Int) + 1) 1 = _; show oneQ _ _ = [] ++ _; rw [show oneQ ((i : Int) + 1) ((j : Int) + 1) = [(((i : Int) + 1), ((j : Int) + 1))] from if_pos hq]; rfl)
                    have PX : Hid (X ++ upQ ((i : Int) + 1) ((j : Int) + 1) 0 ++ [(((i : Int) + 1), ((j : Int) + 1))] <+: hgtQ h h) := hide (by rw [← EX.out]; exact List.IsPrefix.trans ((List.prefix_append_right_inj _).2 (upQ_prefix _ _ 1)) PF.out)
                    have PLEN : Hid ((X ++ upQ ((i : Int) + 1) ((j : Int) + 1) 0).length < (hgtQ h h).length) := hide (by have := PX.out.length_le; rw [List.length_append, List.length_singleton] at this; omega)
                    have NM : Hid (∀ w0, Calls Tryd.prog 25 #[.agg #[.int .i64 ((i : Int) + 1), .int .i64 ((j : Int) + 1)]] w0 fun e w' => e = .returned (.agg #[.int .i64 ((i : Int) + 1), .int .i64 ((j : Int) + 1)]) ∧ Below w0.heap.size w0 w') := hide (fun w0 => by
                      refine (norm0_any _ _ w0 (by omega) (by omega) (by omega) (by omega)).mono ?_
                      rintro e w' ⟨rfl, hb⟩
                      rw [hq.1, hq.2]; exact ⟨rfl, hb⟩)
                    clear hq
                    gi_region_with (first | (refine ⟨trivial, ?_⟩; refine (callsIn_wide.2 (NM.out _)).mono ?_; rintro e w1 ⟨rfl, hb⟩; clear c0 c1; have c0 := (BX.out.drew.step hb).cell0; have c1 := (BX.out.drew.step hb).cell1; have HBn := hide (((Below.refl wz.heap.size wz).drew).trans hb); obtain ⟨fn, tm, asg, bdy, hy, hRd⟩ := yield_went HY.out ((i : Int) + 1) ((j : Int) + 1) (abides HJ.out JJ.out HBn.out) PLEN.out; have HRD := hide hRd; clear hRd hb) | (refine HRD.out.mono ?_; rintro e w3 ⟨q, rfl, hG⟩; have GG := hide hG; clear hG))
                    all_goals
                      clear hy c0 c1
                      try simp only [Act.put]
                      cases q with
                      | true =>
                        obtain ⟨hJ2, hK2⟩ := went_on GG.out
                        have J2 := hide hJ2
                        have K2 := hide ((KK.out.below HBn.out (keeps_size KK.out (by omega) hsz)).trans hK2)
                        clear hJ2 hK2
                        gi_wp2
                        go_roundw
                        case rel => exact ⟨1, by decide, by go_num, by rw [HX.out, EX.out]; exact J2.out, K2.out⟩
                        case measure => simp [intOf]
                      | false =>
                        have hJx := went_off GG.out
                        gi_wp2
                        go_end0
                        exact ⟨⟨_, rfl⟩, .inr ⟨_, PX.out, hJx⟩⟩
                  · have EX : Hid (X ++ upQ ((i : Int) + 1) ((j : Int) + 1) 1 = X ++ upQ ((i : Int) + 1) ((j : Int) + 1) 0) := hide (by congr 1; show oneQ _ _ = []; rw [show oneQ ((i : Int) + 1) ((j : Int) + 1) = [] from if_neg hq])
                    have c0 := BX.out.cell0
                    have c1 := BX.out.cell1
                    obtain ⟨p, hp⟩ : ∃ p, nA ((i : Int) + 1) ((j : Int) + 1) = p := ⟨_, rfl⟩
                    obtain ⟨q, hqq⟩ : ∃ q, nB ((i : Int) + 1) ((j : Int) + 1) = q := ⟨_, rfl⟩
                    rw [hp, hqq] at hq
                    have NM : Hid (∀ w0, Calls Tryd.prog 25 #[.agg #[.int .i64 ((i : Int) + 1), .int .i64 ((j : Int) + 1)]] w0 fun e w' => e = .returned (.agg #[.int .i64 p, .int .i64 q]) ∧ Below w0.heap.size w0 w') := hide (fun w0 => by
                      refine (norm0_any _ _ w0 (by omega) (by omega) (by omega) (by omega)).mono ?_
                      rintro e w' ⟨rfl, hb⟩
                      rw [hp, hqq]; exact ⟨rfl, hb⟩)
                    clear hp hqq
                    have hne : (p == ((i : Int) + 1) && q == ((j : Int) + 1)) = false := by simpa using hq
                    by_cases hp : p = ((i : Int) + 1)
                    · have hq3 : ¬ q = ((j : Int) + 1) := fun e => hq ⟨hp, e⟩
                      have hq4 : (q == ((j : Int) + 1)) = false := by simpa using hq3
                      subst hp
                      clear hq hne
                      clear c0 c1
                      refine wpIn_wide.2 ?_
                      refine wp_calm (fun w' => Below wz.heap.size wz w') (fun _ => true) 10 #[false, false, false, false, false, false, false, false, false, false] (by kernel_rfl) rfl rfl ?_
                      have HF := hide ((Below.refl wz.heap.size wz).drew)
                      generalize wz.drew = wzd at *
                      refine Calm.take (i := 0) (v := ?_) (a' := ?_) (l' := #[true, false, false, false, false, false, false, false, false, false]) (d := some 33) rfl (by kernel_rfl) (by kernel_rfl) (by kernel_rfl) (by kernel_rfl) (fun _ _ _ h => h) HF.out rfl ?_ rfl rfl ?_ ?_
                      rotate_left
                      · intro w' hF; have f0 := (BX.out.step hF).cell0; have f1 := (BX.out.step hF).cell1; clear hF; go_simp; try rfl
                      rotate_left
                      · simp only [Act.put]; exact rfl
                      refine Calm.take (i := 2) (v := ?_) (a' := ?_) (l' := #[true, false, true, false, false, false, false, false, false, false]) (d := some 35) rfl (by kernel_rfl) (by kernel_rfl) (by kernel_rfl) (by kernel_rfl) (fun _ _ _ h => h) HF.out rfl ?_ rfl rfl ?_ ?_
                      rotate_left
                      · intro w' hF; have f0 := (BX.out.step hF).cell0; have f1 := (BX.out.step hF).cell1; clear hF; go_simp; try rfl
                      rotate_left
                      · simp only [Act.put]; exact rfl
                      refine Calm.one (i := 1) (l' := #[true, true, true, false, false, false, false, false, false, false]) (by kernel_rfl) rfl rfl rfl fun K hK => ?_
                      go_simp
                      refine (NM.out _).mono ?_
                      rintro e w1 ⟨rfl, hb⟩
                      have HF' := hide (HF.out.trans ((hb).mono HF.out.size))
                      refine hK _ _ (fun _ => HF'.out) ?_
                      clear hK K HF hb
                      have HF := hide HF'.out
                      clear HF'
                      refine Calm.take (i := 3) (v := ?_) (a' := ?_) (l' := #[true, true, true, true, false, false, false, false, false, false]) (d := some 36) rfl (by kernel_rfl) (by kernel_rfl) (by kernel_rfl) (by kernel_rfl) (fun _ _ _ h => h) HF.out rfl ?_ rfl rfl ?_ ?_
                      rotate_left
                      · intro w' hF; clear hF; go_simp; try rfl
                      rotate_left
                      · simp only [Act.put]; exact rfl
                      refine Calm.take (i := 4) (v := ?_) (a' := ?_) (l' := #[true, true, true, true, true, false, false, false, false, false]) (d := some 37) rfl (by kernel_rfl) (by kernel_rfl) (by kernel_rfl) (by kernel_rfl) (fun _ _ _ h => h) HF.out rfl ?_ rfl rfl ?_ ?_
                      rotate_left
                      · intro w' hF; clear hF; go_simp; try rfl
                      rotate_left
                      · simp only [Act.put]; exact rfl
                      refine Calm.skipP (i := 5) (a' := ?_) (l' := #[true, true, true, true, true, true, false, false, false, false]) (d := some 38) rfl (by kernel_rfl) (by kernel_rfl) (by kernel_rfl) (by kernel_rfl) (fun _ _ _ h => h) HF.out (by kernel_rfl) rfl rfl ?_ ?_
                      rotate_left
                      · simp only [Act.put]; exact rfl
                      refine Calm.skipP (i := 6) (a' := ?_) (l' := #[true, true, true, true, true, true, true, false, false, false]) (d := some 39) rfl (by kernel_rfl) (by kernel_rfl) (by kernel_rfl) (by kernel_rfl) (fun _ _ _ h => h) HF.out (by kernel_rfl) rfl rfl ?_ ?_
                      rotate_left
                      · simp only [Act.put]; exact rfl
                      refine Calm.skipP (i := 7) (a' := ?_) (l' := #[true, true, true, true, true, true, true, true, false, false]) (d := some 40) rfl (by kernel_rfl) (by kernel_rfl) (by kernel_rfl) (by kernel_rfl) (fun _ _ _ h => h) HF.out (by kernel_rfl) rfl rfl ?_ ?_
                      rotate_left
                      · simp only [Act.put]; exact rfl
                      refine Calm.skipP (i := 8) (a' := ?_) (l' := #[true, true, true, true, true, true, true, true, true, false]) (d := some 41) rfl (by kernel_rfl) (by kernel_rfl) (by kernel_rfl) (by kernel_rfl) (fun _ _ _ h => h) HF.out (by kernel_rfl) rfl rfl ?_ ?_
                      rotate_left
                      · simp only [Act.put]; exact rfl
                      refine Calm.take (i := 9) (v := ?_) (a' := ?_) (l' := #[true, true, true, true, true, true, true, true, true, true]) (d := some 42) rfl (by kernel_rfl) (by kernel_rfl) (by kernel_rfl) (by kernel_rfl) (fun _ _ _ h => h) HF.out rfl ?_ rfl rfl ?_ ?_
                      rotate_left
                      · intro w' hF; clear hF; go_simp; try rfl
                      rotate_left
                      · simp only [Act.put]; exact rfl
                      refine Calm.done (by kernel_rfl) ?_
                      have J2 := hide (abides HJ.out JJ.out HF.out)
                      have K2 := hide (KK.out.below HF.out (keeps_size KK.out (by omega) hsz))
                      simp only [List.setIfInBounds_toArray, List.set_cons_succ, List.set_cons_zero]
                      gi_wp2
                      go_roundw
                      case rel => exact ⟨1, by decide, by go_num, by rw [HX.out, EX.out]; exact J2.out, K2.out⟩
                      case measure => simp [intOf]
                    · have hp4 : (p == ((i : Int) + 1)) = false := by simpa using hp
                      clear hq hne
                      clear c0 c1
                      refine wpIn_wide.2 ?_
                      refine wp_calm (fun w' => Below wz.heap.size wz w') (fun _ => true) 10 #[false, false, false, false, false, false, false, false, false, false] (by kernel_rfl) rfl rfl ?_
                      have HF := hide ((Below.refl wz.heap.size wz).drew)
                      generalize wz.drew = wzd at *
                      refine Calm.take (i := 0) (v := ?_) (a' := ?_) (l' := #[true, false, false, false, false, false, false, false, false, false]) (d := some 33) rfl (by kernel_rfl) (by kernel_rfl) (by kernel_rfl) (by kernel_rfl) (fun _ _ _ h => h) HF.out rfl ?_ rfl rfl ?_ ?_
                      rotate_left
                      · intro w' hF; have f0 := (BX.out.step hF).cell0; have f1 := (BX.out.step hF).cell1; clear hF; go_simp; try rfl
                      rotate_left
                      · simp only [Act.put]; exact rfl
                      refine Calm.take (i := 2) (v := ?_) (a' := ?_) (l' := #[true, false, true, false, false, false, false, false, false, false]) (d := some 35) rfl (by kernel_rfl) (by kernel_rfl) (by kernel_rfl) (by kernel_rfl) (fun _ _ _ h => h) HF.out rfl ?_ rfl rfl ?_ ?_
                      rotate_left
                      · intro w' hF; have f0 := (BX.out.step hF).cell0; have f1 := (BX.out.step hF).cell1; clear hF; go_simp; try rfl
                      rotate_left
                      · simp only [Act.put]; exact rfl
                      refine Calm.one (i := 1) (l' := #[true, true, true, false, false, false, false, false, false, false]) (by kernel_rfl) rfl rfl rfl fun K hK => ?_
                      go_simp
                      refine (NM.out _).mono ?_
                      rintro e w1 ⟨rfl, hb⟩
                      have HF' := hide (HF.out.trans ((hb).mono HF.out.size))
                      refine hK _ _ (fun _ => HF'.out) ?_
                      clear hK K HF hb
                      have HF := hide HF'.out
                      clear HF'
                      refine Calm.take (i := 3) (v := ?_) (a' := ?_) (l' := #[true, true, true, true, false, false, false, false, false, false]) (d := some 36) rfl (by kernel_rfl) (by kernel_rfl) (by kernel_rfl) (by kernel_rfl) (fun _ _ _ h => h) HF.out rfl ?_ rfl rfl ?_ ?_
                      rotate_left
                      · intro w' hF; clear hF; go_simp; try rfl
                      rotate_left
                      · simp only [Act.put]; exact rfl
                      refine Calm.take (i := 4) (v := ?_) (a' := ?_) (l' := #[true, true, true, true, true, false, false, false, false, false]) (d := some 37) rfl (by kernel_rfl) (by kernel_rfl) (by kernel_rfl) (by kernel_rfl) (fun _ _ _ h => h) HF.out rfl ?_ rfl rfl ?_ ?_
                      rotate_left
                      · intro w' hF; clear hF; go_simp; try rfl
                      rotate_left
                      · simp only [Act.put]; exact rfl
                      refine Calm.skipP (i := 5) (a' := ?_) (l' := #[true, true, true, true, true, true, false, false, false, false]) (d := some 38) rfl (by kernel_rfl) (by kernel_rfl) (by kernel_rfl) (by kernel_rfl) (fun _ _ _ h => h) HF.out (by kernel_rfl) rfl rfl ?_ ?_
                      rotate_left
                      · simp only [Act.put]; exact rfl
                      refine Calm.skipP (i := 6) (a' := ?_) (l' := #[true, true, true, true, true, true, true, false, false, false]) (d := some 39) rfl (by kernel_rfl) (by kernel_rfl) (by kernel_rfl) (by kernel_rfl) (fun _ _ _ h => h) HF.out (by kernel_rfl) rfl rfl ?_ ?_
                      rotate_left
                      · simp only [Act.put]; exact rfl
                      refine Calm.skipP (i := 7) (a' := ?_) (l' := #[true, true, true, true, true, true, true, true, false, false]) (d := some 40) rfl (by kernel_rfl) (by kernel_rfl) (by kernel_rfl) (by kernel_rfl) (fun _ _ _ h => h) HF.out (by kernel_rfl) rfl rfl ?_ ?_
                      rotate_left
                      · simp only [Act.put]; exact rfl
                      refine Calm.skipP (i := 8) (a' := ?_) (l' := #[true, true, true, true, true, true, true, true, true, false]) (d := some 41) rfl (by kernel_rfl) (by kernel_rfl) (by kernel_rfl) (by kernel_rfl) (fun _ _ _ h => h) HF.out (by kernel_rfl) rfl rfl ?_ ?_
                      rotate_left
                      · simp only [Act.put]; exact rfl
                      refine Calm.take (i := 9) (v := ?_) (a' := ?_) (l' := #[true, true, true, true, true, true, true, true, true, true]) (d := some 42) rfl (by kernel_rfl) (by kernel_rfl) (by kernel_rfl) (by kernel_rfl) (fun _ _ _ h => h) HF.out rfl ?_ rfl rfl ?_ ?_
                      rotate_left
                      · intro w' hF; clear hF; go_simp; try rfl
                      rotate_left
                      · simp only [Act.put]; exact rfl
                      refine Calm.done (by kernel_rfl) ?_
                      have J2 := hide (abides HJ.out JJ.out HF.out)
                      have K2 := hide (KK.out.below HF.out (keeps_size KK.out (by omega) hsz))
                      simp only [List.setIfInBounds_toArray, List.set_cons_succ, List.set_cons_zero]
                      gi_wp2
                      go_roundw
                      case rel => exact ⟨1, by decide, by go_num, by rw [HX.out, EX.out]; exact J2.out, K2.out⟩
                      case measure => simp [intOf]
                | 1, _ =>
                  have pix1 := Tryd.pix1
                  gi_wp2_with fail
                  have BX := hide (Box2.new wr 27 (.int .i64 (-((i : Int) + 1))) (.int .i64 ((j : Int) + 1)))
                  have AL := hide (below_alloc wr (.cells #[.int .i64 (-((i : Int) + 1)), .int .i64 ((j : Int) + 1)] 27))
                  replace JJ := hide (abides HJ.out JJ.out AL.out)
                  replace KK := hide (KK.out.below AL.out (keeps_size KK.out (by omega) hsz))
                  clear AL pix1
                  generalize hw : wr.alloc (.cells #[.int .i64 (-((i : Int) + 1)), .int .i64 ((j : Int) + 1)] 27) = wz at *
                  clear hw
                  generalize wr.heap.size = gz at *
                  have PF := hide (two_prefix hlj hli)
                  rw [TQ.out] at PF
                  generalize hXX : hgtQ h j ++ rowQ h ((j : Int) + 1) i = X at *
                  have HX := hide hXX
                  clear hXX
                  by_cases hq : nA (-((i : Int) + 1)) ((j : Int) + 1) = (-((i : Int) + 1)) ∧ nB (-((i : Int) + 1)) ((j : Int) + 1) = ((j : Int) + 1)
                  · have c0 := BX.out.cell0
                    have c1 := BX.out.cell1
                    have EX : Hid (X ++ upQ ((i : Int) + 1) ((j : Int) + 1) 2 = X ++ upQ ((i : Int) + 1) ((j : Int) + 1) 1 ++ [((-((i : Int) + 1)), ((j : Int) + 1))]) := hide (by rw [List.append_assoc]; congr 1; show upQ ((i : Int) + 1) ((j : Int) + 1) 2 = _; show oneQ _ _ ++ oneQ _ _ = oneQ _ _ ++ _; rw [show oneQ (-((i : Int) + 1)) ((j : Int) + 1) = [((-((i : Int) + 1)), ((j : Int) + 1))] from if_pos hq])
                    have PX : Hid (X ++ upQ ((i : Int) + 1) ((j : Int) + 1) 1 ++ [((-((i : Int) + 1)), ((j : Int) + 1))] <+: hgtQ h h) := hide (by rw [← EX.out]; exact List.IsPrefix.trans ((List.prefix_append_right_inj _).2 (upQ_prefix _ _ 2)) PF.out)
                    have PLEN : Hid ((X ++ upQ ((i : Int) + 1) ((j : Int) + 1) 1).length < (hgtQ h h).length) := hide (by have := PX.out.length_le; rw [List.length_append, List.length_singleton] at this; omega)
                    have NM : Hid (∀ w0, Calls Tryd.prog 25 #[.agg #[.int .i64 (-((i : Int) + 1)), .int .i64 ((j : Int) + 1)]] w0 fun e w' => e = .returned (.agg #[.int .i64 (-((i : Int) + 1)), .int .i64 ((j : Int) + 1)]) ∧ Below w0.heap.size w0 w') := hide (fun w0 => by
                      refine (norm0_any _ _ w0 (by omega) (by omega) (by omega) (by omega)).mono ?_
                      rintro e w' ⟨rfl, hb⟩
                      rw [hq.1, hq.2]; exact ⟨rfl, hb⟩)
                    clear hq
                    gi_region_with (first | (refine ⟨trivial, ?_⟩; refine (callsIn_wide.2 (NM.out _)).mono ?_; rintro e w1 ⟨rfl, hb⟩; clear c0 c1; have c0 := (BX.out.drew.step hb).cell0; have c1 := (BX.out.drew.step hb).cell1; have HBn := hide (((Below.refl wz.heap.size wz).drew).trans hb); obtain ⟨fn, tm, asg, bdy, hy, hRd⟩ := yield_went HY.out (-((i : Int) + 1)) ((j : Int) + 1) (abides HJ.out JJ.out HBn.out) PLEN.out; have HRD := hide hRd; clear hRd hb) | (refine HRD.out.mono ?_; rintro e w3 ⟨q, rfl, hG⟩; have GG := hide hG; clear hG))
                    all_goals
                      clear hy c0 c1
                      try simp only [Act.put]
                      cases q with
                      | true =>
                        obtain ⟨hJ2, hK2⟩ := went_on GG.out
                        have J2 := hide hJ2
                        have K2 := hide ((KK.out.below HBn.out (keeps_size KK.out (by omega) hsz)).trans hK2)
                        clear hJ2 hK2
                        gi_wp2
                        go_roundw
                        case rel => exact ⟨2, by decide, by go_num, by rw [HX.out, EX.out]; exact J2.out, K2.out⟩
                        case measure => simp [intOf]
                      | false =>
                        have hJx := went_off GG.out
                        gi_wp2
                        go_end0
                        exact ⟨⟨_, rfl⟩, .inr ⟨_, PX.out, hJx⟩⟩
                  · have EX : Hid (X ++ upQ ((i : Int) + 1) ((j : Int) + 1) 2 = X ++ upQ ((i : Int) + 1) ((j : Int) + 1) 1) := hide (by congr 1; show oneQ _ _ ++ oneQ _ _ = oneQ _ _; rw [show oneQ (-((i : Int) + 1)) ((j : Int) + 1) = [] from if_neg hq]; simp)
                    have c0 := BX.out.cell0
                    have c1 := BX.out.cell1
                    obtain ⟨p, hp⟩ : ∃ p, nA (-((i : Int) + 1)) ((j : Int) + 1) = p := ⟨_, rfl⟩
                    obtain ⟨q, hqq⟩ : ∃ q, nB (-((i : Int) + 1)) ((j : Int) + 1) = q := ⟨_, rfl⟩
                    rw [hp, hqq] at hq
                    have NM : Hid (∀ w0, Calls Tryd.prog 25 #[.agg #[.int .i64 (-((i : Int) + 1)), .int .i64 ((j : Int) + 1)]] w0 fun e w' => e = .returned (.agg #[.int .i64 p, .int .i64 q]) ∧ Below w0.heap.size w0 w') := hide (fun w0 => by
                      refine (norm0_any _ _ w0 (by omega) (by omega) (by omega) (by omega)).mono ?_
                      rintro e w' ⟨rfl, hb⟩
                      rw [hp, hqq]; exact ⟨rfl, hb⟩)
                    clear hp hqq
                    have hne : (p == (-((i : Int) + 1)) && q == ((j : Int) + 1)) = false := by simpa using hq
                    by_cases hp : p = (-((i : Int) + 1))
                    · have hq3 : ¬ q = ((j : Int) + 1) := fun e => hq ⟨hp, e⟩
                      have hq4 : (q == ((j : Int) + 1)) = false := by simpa using hq3
                      subst hp
                      clear hq hne
                      clear c0 c1
                      refine wpIn_wide.2 ?_
                      refine wp_calm (fun w' => Below wz.heap.size wz w') (fun _ => true) 10 #[false, false, false, false, false, false, false, false, false, false] (by kernel_rfl) rfl rfl ?_
                      have HF := hide ((Below.refl wz.heap.size wz).drew)
                      generalize wz.drew = wzd at *
                      refine Calm.take (i := 0) (v := ?_) (a' := ?_) (l' := #[true, false, false, false, false, false, false, false, false, false]) (d := some 33) rfl (by kernel_rfl) (by kernel_rfl) (by kernel_rfl) (by kernel_rfl) (fun _ _ _ h => h) HF.out rfl ?_ rfl rfl ?_ ?_
                      rotate_left
                      · intro w' hF; have f0 := (BX.out.step hF).cell0; have f1 := (BX.out.step hF).cell1; clear hF; go_simp; try rfl
                      rotate_left
                      · simp only [Act.put]; exact rfl
                      refine Calm.take (i := 2) (v := ?_) (a' := ?_) (l' := #[true, false, true, false, false, false, false, false, false, false]) (d := some 35) rfl (by kernel_rfl) (by kernel_rfl) (by kernel_rfl) (by kernel_rfl) (fun _ _ _ h => h) HF.out rfl ?_ rfl rfl ?_ ?_
                      rotate_left
                      · intro w' hF; have f0 := (BX.out.step hF).cell0; have f1 := (BX.out.step hF).cell1; clear hF; go_simp; try rfl
                      rotate_left
                      · simp only [Act.put]; exact rfl
                      refine Calm.one (i := 1) (l' := #[true, true, true, false, false, false, false, false, false, false]) (by kernel_rfl) rfl rfl rfl fun K hK => ?_
                      go_simp
                      refine (NM.out _).mono ?_
                      rintro e w1 ⟨rfl, hb⟩
                      have HF' := hide (HF.out.trans ((hb).mono HF.out.size))
                      refine hK _ _ (fun _ => HF'.out) ?_
                      clear hK K HF hb
                      have HF := hide HF'.out
                      clear HF'
                      refine Calm.take (i := 3) (v := ?_) (a' := ?_) (l' := #[true, true, true, true, false, false, false, false, false, false]) (d := some 36) rfl (by kernel_rfl) (by kernel_rfl) (by kernel_rfl) (by kernel_rfl) (fun _ _ _ h => h) HF.out rfl ?_ rfl rfl ?_ ?_
                      rotate_left
                      · intro w' hF; clear hF; go_simp; try rfl
                      rotate_left
                      · simp only [Act.put]; exact rfl
                      refine Calm.take (i := 4) (v := ?_) (a' := ?_) (l' := #[true, true, true, true, true, false, false, false, false, false]) (d := some 37) rfl (by kernel_rfl) (by kernel_rfl) (by kernel_rfl) (by kernel_rfl) (fun _ _ _ h => h) HF.out rfl ?_ rfl rfl ?_ ?_
                      rotate_left
                      · intro w' hF; clear hF; go_simp; try rfl
                      rotate_left
                      · simp only [Act.put]; exact rfl
                      refine Calm.skipP (i := 5) (a' := ?_) (l' := #[true, true, true, true, true, true, false, false, false, false]) (d := some 38) rfl (by kernel_rfl) (by kernel_rfl) (by kernel_rfl) (by kernel_rfl) (fun _ _ _ h => h) HF.out (by kernel_rfl) rfl rfl ?_ ?_
                      rotate_left
                      · simp only [Act.put]; exact rfl
                      refine Calm.skipP (i := 6) (a' := ?_) (l' := #[true, true, true, true, true, true, true, false, false, false]) (d := some 39) rfl (by kernel_rfl) (by kernel_rfl) (by kernel_rfl) (by kernel_rfl) (fun _ _ _ h => h) HF.out (by kernel_rfl) rfl rfl ?_ ?_
                      rotate_left
                      · simp only [Act.put]; exact rfl
                      refine Calm.skipP (i := 7) (a' := ?_) (l' := #[true, true, true, true, true, true, true, true, false, false]) (d := some 40) rfl (by kernel_rfl) (by kernel_rfl) (by kernel_rfl) (by kernel_rfl) (fun _ _ _ h => h) HF.out (by kernel_rfl) rfl rfl ?_ ?_
                      rotate_left
                      · simp only [Act.put]; exact rfl
                      refine Calm.skipP (i := 8) (a' := ?_) (l' := #[true, true, true, true, true, true, true, true, true, false]) (d := some 41) rfl (by kernel_rfl) (by kernel_rfl) (by kernel_rfl) (by kernel_rfl) (fun _ _ _ h => h) HF.out (by kernel_rfl) rfl rfl ?_ ?_
                      rotate_left
                      · simp only [Act.put]; exact rfl
                      refine Calm.take (i := 9) (v := ?_) (a' := ?_) (l' := #[true, true, true, true, true, true, true, true, true, true]) (d := some 42) rfl (by kernel_rfl) (by kernel_rfl) (by kernel_rfl) (by kernel_rfl) (fun _ _ _ h => h) HF.out rfl ?_ rfl rfl ?_ ?_
                      rotate_left
                      · intro w' hF; clear hF; go_simp; try rfl
                      rotate_left
                      · simp only [Act.put]; exact rfl
                      refine Calm.done (by kernel_rfl) ?_
                      have J2 := hide (abides HJ.out JJ.out HF.out)
                      have K2 := hide (KK.out.below HF.out (keeps_size KK.out (by omega) hsz))
                      simp only [List.setIfInBounds_toArray, List.set_cons_succ, List.set_cons_zero]
                      gi_wp2
                      go_roundw
                      case rel => exact ⟨2, by decide, by go_num, by rw [HX.out, EX.out]; exact J2.out, K2.out⟩
                      case measure => simp [intOf]
                    · have hp4 : (p == (-((i : Int) + 1))) = false := by simpa using hp
                      clear hq hne
                      clear c0 c1
                      refine wpIn_wide.2 ?_
                      refine wp_calm (fun w' => Below wz.heap.size wz w') (fun _ => true) 10 #[false, false, false, false, false, false, false, false, false, false] (by kernel_rfl) rfl rfl ?_
                      have HF := hide ((Below.refl wz.heap.size wz).drew)
                      generalize wz.drew = wzd at *
                      refine Calm.take (i := 0) (v := ?_) (a' := ?_) (l' := #[true, false, false, false, false, false, false, false, false, false]) (d := some 33) rfl (by kernel_rfl) (by kernel_rfl) (by kernel_rfl) (by kernel_rfl) (fun _ _ _ h => h) HF.out rfl ?_ rfl rfl ?_ ?_
                      rotate_left
                      · intro w' hF; have f0 := (BX.out.step hF).cell0; have f1 := (BX.out.step hF).cell1; clear hF; go_simp; try rfl
                      rotate_left
                      · simp only [Act.put]; exact rfl
                      refine Calm.take (i := 2) (v := ?_) (a' := ?_) (l' := #[true, false, true, false, false, false, false, false, false, false]) (d := some 35) rfl (by kernel_rfl) (by kernel_rfl) (by kernel_rfl) (by kernel_rfl) (fun _ _ _ h => h) HF.out rfl ?_ rfl rfl ?_ ?_
                      rotate_left
                      · intro w' hF; have f0 := (BX.out.step hF).cell0; have f1 := (BX.out.step hF).cell1; clear hF; go_simp; try rfl
                      rotate_left
                      · simp only [Act.put]; exact rfl
                      refine Calm.one (i := 1) (l' := #[true, true, true, false, false, false, false, false, false, false]) (by kernel_rfl) rfl rfl rfl fun K hK => ?_
                      go_simp
                      refine (NM.out _).mono ?_
                      rintro e w1 ⟨rfl, hb⟩
                      have HF' := hide (HF.out.trans ((hb).mono HF.out.size))
                      refine hK _ _ (fun _ => HF'.out) ?_
                      clear hK K HF hb
                      have HF := hide HF'.out
                      clear HF'
                      refine Calm.take (i := 3) (v := ?_) (a' := ?_) (l' := #[true, true, true, true, false, false, false, false, false, false]) (d := some 36) rfl (by kernel_rfl) (by kernel_rfl) (by kernel_rfl) (by kernel_rfl) (fun _ _ _ h => h) HF.out rfl ?_ rfl rfl ?_ ?_
                      rotate_left
                      · intro w' hF; clear hF; go_simp; try rfl
                      rotate_left
                      · simp only [Act.put]; exact rfl
                      refine Calm.take (i := 4) (v := ?_) (a' := ?_) (l' := #[true, true, true, true, true, false, false, false, false, false]) (d := some 37) rfl (by kernel_rfl) (by kernel_rfl) (by kernel_rfl) (by kernel_rfl) (fun _ _ _ h => h) HF.out rfl ?_ rfl rfl ?_ ?_
                      rotate_left
                      · intro w' hF; clear hF; go_simp; try rfl
                      rotate_left
                      · simp only [Act.put]; exact rfl
                      refine Calm.skipP (i := 5) (a' := ?_) (l' := #[true, true, true, true, true, true, false, false, false, false]) (d := some 38) rfl (by kernel_rfl) (by kernel_rfl) (by kernel_rfl) (by kernel_rfl) (fun _ _ _ h => h) HF.out (by kernel_rfl) rfl rfl ?_ ?_
                      rotate_left
                      · simp only [Act.put]; exact rfl
                      refine Calm.skipP (i := 6) (a' := ?_) (l' := #[true, true, true, true, true, true, true, false, false, false]) (d := some 39) rfl (by kernel_rfl) (by kernel_rfl) (by kernel_rfl) (by kernel_rfl) (fun _ _ _ h => h) HF.out (by kernel_rfl) rfl rfl ?_ ?_
                      rotate_left
                      · simp only [Act.put]; exact rfl
                      refine Calm.skipP (i := 7) (a' := ?_) (l' := #[true, true, true, true, true, true, true, true, false, false]) (d := some 40) rfl (by kernel_rfl) (by kernel_rfl) (by kernel_rfl) (by kernel_rfl) (fun _ _ _ h => h) HF.out (by kernel_rfl) rfl rfl ?_ ?_
                      rotate_left
                      · simp only [Act.put]; exact rfl
                      refine Calm.skipP (i := 8) (a' := ?_) (l' := #[true, true, true, true, true, true, true, true, true, false]) (d := some 41) rfl (by kernel_rfl) (by kernel_rfl) (by kernel_rfl) (by kernel_rfl) (fun _ _ _ h => h) HF.out (by kernel_rfl) rfl rfl ?_ ?_
                      rotate_left
                      · simp only [Act.put]; exact rfl
                      refine Calm.take (i := 9) (v := ?_) (a' := ?_) (l' := #[true, true, true, true, true, true, true, true, true, true]) (d := some 42) rfl (by kernel_rfl) (by kernel_rfl) (by kernel_rfl) (by kernel_rfl) (fun _ _ _ h => h) HF.out rfl ?_ rfl rfl ?_ ?_
                      rotate_left
                      · intro w' hF; clear hF; go_simp; try rfl
                      rotate_left
                      · simp only [Act.put]; exact rfl
                      refine Calm.done (by kernel_rfl) ?_
                      have J2 := hide (abides HJ.out JJ.out HF.out)
                      have K2 := hide (KK.out.below HF.out (keeps_size KK.out (by omega) hsz))
                      simp only [List.setIfInBounds_toArray, List.set_cons_succ, List.set_cons_zero]
                      gi_wp2
                      go_roundw
                      case rel => exact ⟨2, by decide, by go_num, by rw [HX.out, EX.out]; exact J2.out, K2.out⟩
                      case measure => simp [intOf]
                | 2, _ =>
                  have EX : Hid (hgtQ h j ++ rowQ h ((j : Int) + 1) (i + 1) = hgtQ h j ++ rowQ h ((j : Int) + 1) i ++ upQ ((i : Int) + 1) ((j : Int) + 1) 2) := hide (by rw [rowQ_succ, TQ.out, List.append_assoc]; rfl)
                  gi_wp2
                  go_roundw
                  case rel => exact ⟨i + 1, by omega, by go_num, by rw [EX.out]; exact JJ.out, KK.out⟩
                  case measure => simp [intOf]; omega
          · have TQ := hide (show twoQ h ((i : Int) + 1) ((j : Int) + 1) = [] from if_neg ht)
            have EX : Hid (hgtQ h j ++ rowQ h ((j : Int) + 1) (i + 1) = hgtQ h j ++ rowQ h ((j : Int) + 1) i) := hide (by rw [rowQ_succ, TQ.out]; simp)
            have hm1 : (((i : Int) + 1) != (h : Int)) = true := by simp; omega
            have hm2 : (((j : Int) + 1) != (h : Int)) = true := by simp; omega
            clear ht
            gi_wp2
            all_goals
              go_roundw
              case rel => exact ⟨i + 1, by omega, by go_num, by rw [EX.out]; exact JJ.out, KK.out⟩
              case measure => simp [intOf]; omega
        · have e : i = h := by omega
          subst e
          have hc2 : ¬ ((i : Int) + 1 ≤ (i : Int)) := by omega
          have HS := hide (hgtQ_succ i j)
          gi_wp2
          go_roundw
          case rel => exact ⟨j + 1, by omega, by go_num, by rw [HS.out]; exact JJ.out, KK.out⟩
          case measure => simp [intOf]; omega
    · have e : j = h := by omega
      subst e
      have hc1 : ¬ ((j : Int) + 1 ≤ (j : Int)) := by omega
      gi_wp2
      go_end0
      exact ⟨⟨_, rfl⟩, .inl ⟨_, rfl, JJ.out⟩⟩
end Go.Proofs.YtphohclnendhmaaDoor
