/- integer.Int's Twos, Shl, Shr. -/
import Derived.Test.YtamcmdabhlbnjaaDoorRefShift
import Derived.Test.YtamcmdabhlbnjaaDoorIOps
import Derived.Test.YtamcmdabhlbnjaaDoorCalm3
namespace Go.Proofs.YtamcmdabhlbnjaaDoor
open Go.RowKit

set_option maxRecDepth 100000 in
set_option maxHeartbeats 2000000 in
theorem rbit_neg (v : Value) (xs : List Nat) (k : Int) (w : World) (h : Nums w v xs) (hk : k < 0) :
    Calls Tryd.prog 14 #[v, .int .i64 k] w fun e w' => e = .returned (.bool false) ∧ w' = w := by
  obtain ⟨_, a1, c1, rfl, _, _, _⟩ := h
  have hk2 : ¬ 0 ≤ k := by omega
  go_enter Tryd.func14, Tryd.ntmps14
  go_wp2
  go_ret
  exact ⟨rfl, rfl⟩
set_option maxRecDepth 100000 in
set_option maxHeartbeats 2000000 in
theorem shl_neg (v : Value) (xs : List Nat) (n : Int) (w : World) (h : Nums w v xs) (hk : n < 0) :
    Calls Tryd.prog 9 #[v, .int .i64 n] w fun e w' => e = .returned (.tuple #[.slice none 0 0, .int .i64 2]) ∧ w' = w := by
  obtain ⟨_, a1, c1, rfl, _, _, _⟩ := h
  go_enter Tryd.func9, Tryd.ntmps9
  go_wp2
  go_ret2
  exact ⟨rfl, rfl⟩
set_option maxRecDepth 100000 in
set_option maxHeartbeats 2000000 in
theorem shl_big (v : Value) (xs : List Nat) (n : Nat) (w : World) (h : Nums w v xs) (hk : 65536 < n) :
    Calls Tryd.prog 9 #[v, .int .i64 n] w fun e w' => e = .returned (.tuple #[.slice none 0 0, .int .i64 3]) ∧ w' = w := by
  obtain ⟨_, a1, c1, rfl, _, _, _⟩ := h
  have h1 : ¬ (n : Int) < 0 := by omega
  have h2 : (65536 : Int) < (n : Int) := by omega
  go_enter Tryd.func9, Tryd.ntmps9
  go_wp2
  go_ret2
  exact ⟨rfl, rfl⟩
set_option maxRecDepth 100000 in
set_option maxHeartbeats 2000000 in
theorem shr_neg (v : Value) (xs : List Nat) (n : Int) (w : World) (h : Nums w v xs) (hk : n < 0) :
    Calls Tryd.prog 10 #[v, .int .i64 n] w fun e w' => e = .returned (.tuple #[.slice none 0 0, .int .i64 2]) ∧ w' = w := by
  obtain ⟨_, a1, c1, rfl, _, _, _⟩ := h
  go_enter Tryd.func10, Tryd.ntmps10
  go_wp2
  go_ret2
  exact ⟨rfl, rfl⟩

def BitsPair (xs : List Nat) (z : Int) : Prop := (∀ v w, Nums w v xs → Calls Tryd.prog 11 #[v] w fun e w' => e = .returned (.int .i64 z) ∧ Below w.heap.size w w') ∧
  (∀ v w, Nums w v xs → Calls Tryd.prog 12 #[v] w fun e w' => e = .returned (.int .i64 z) ∧ Below w.heap.size w w')
theorem bits_pair (xs : List Nat) (hlen : xs.length ≤ 1000000) : ∃ z : Int, BitsPair xs z := by
  by_cases hz : val xs = 0
  · refine ⟨0, fun v w h => (lbits_zero v xs w h hz).mono ?_, fun v w h => rbits_zero v xs w h hlen hz⟩
    rintro e w' ⟨rfl, rfl⟩
    exact ⟨rfl, Below.refl _ _⟩
  · obtain ⟨L, hL⟩ : ∃ L, IsLen (val xs) L := ⟨Nat.log2 (val xs) + 1, Nat.lt_log2_self, fun _ => ⟨Nat.succ_pos _, by simpa using Nat.log2_self_le hz⟩⟩
    have hp := Nat.pos_of_ne_zero hz
    refine ⟨(L : Nat), fun v w h => (lbitsX_any v xs w h hlen).mono ?_, fun v w h => (rbits_any v xs w h (by omega)).mono ?_⟩
    · rintro e w' ⟨M, rfl, hM, _, rfl⟩
      rw [hM.onlyL hL hp]
      exact ⟨rfl, Below.refl _ _⟩
    · rintro e w' ⟨M, rfl, hM, _, hb⟩
      rw [hM.onlyL hL hp]
      exact ⟨rfl, hb⟩
def TwosPair (xs : List Nat) (z : Int) : Prop := (∀ v w, Nums w v xs → TabW w → Calls Tryd.prog 15 #[v] w fun e w' => e = .returned (.int .i64 z) ∧ Below w.heap.size w w') ∧
  (∀ v w, Nums w v xs → Calls Tryd.prog 16 #[v] w fun e w' => e = .returned (.int .i64 z) ∧ Below w.heap.size w w')
theorem twos_pair (xs : List Nat) (hlen : xs.length ≤ 1000000) : ∃ z : Int, TwosPair xs z := by
  by_cases hz : val xs = 0
  · refine ⟨0, fun v w h _ => (twos_zero v xs w h hz).mono ?_, fun v w h => rtwos_zero v xs w h hlen hz⟩
    rintro e w' ⟨rfl, rfl⟩
    exact ⟨rfl, Below.refl _ _⟩
  · have hp := Nat.pos_of_ne_zero hz
    obtain ⟨K, hK⟩ := exists_twos (val xs) hp
    refine ⟨(K : Nat), fun v w h hT => (twos_any v xs w h hT hlen hz).mono ?_, fun v w h => rtwos_any v xs K w h hlen hp hK⟩
    rintro e w' ⟨M, rfl, hM, _, rfl⟩
    rw [hM.only hK]
    exact ⟨rfl, Below.refl _ _⟩
def BitPair (xs : List Nat) (n : Int) (b : Bool) : Prop := (∀ v w, Nums w v xs → Calls Tryd.prog 13 #[v, .int .i64 n] w fun e w' => e = .returned (.bool b) ∧ Below w.heap.size w w') ∧
  (∀ v w, Nums w v xs → Calls Tryd.prog 14 #[v, .int .i64 n] w fun e w' => e = .returned (.bool b) ∧ Below w.heap.size w w')
theorem bit_pair (xs : List Nat) (n : Int) (hn : n ≤ 9223372036854775807) : ∃ b : Bool, BitPair xs n b := by
  by_cases h0 : n < 0
  · refine ⟨false, fun v w h => (bit_neg v xs n w h h0).mono ?_, fun v w h => (rbit_neg v xs n w h h0).mono ?_⟩
    · rintro e w' ⟨rfl, rfl⟩; exact ⟨rfl, Below.refl _ _⟩
    · rintro e w' ⟨rfl, rfl⟩; exact ⟨rfl, Below.refl _ _⟩
  · obtain ⟨k, rfl⟩ : ∃ k : Nat, n = (k : Int) := ⟨n.toNat, by omega⟩
    refine ⟨bitB (val xs) k, fun v w h => (bit_any v xs k w h (by omega)).mono ?_, fun v w h => (rbit_any v xs k w h (by omega)).mono ?_⟩
    · rintro e w' ⟨rfl, rfl⟩; exact ⟨rfl, Below.refl _ _⟩
    · rintro e w' ⟨rfl, rfl⟩; exact ⟨rfl, Below.refl _ _⟩
end Go.Proofs.YtamcmdabhlbnjaaDoor

namespace Go.Proofs.YtamcmdabhlbnjaaDoor
open Go.RowKit

/-- how often 2 divides it, -1 of 0 -/
def ITw (z t : Int) : Prop := (z = 0 ∧ t = -1) ∨ (z ≠ 0 ∧ ∃ k : Nat, t = (k : Int) ∧ IsTwos z.natAbs k ∧ k ≤ 32000000)
theorem ITw.only {z s t : Int} (h : ITw z s) (h' : ITw z t) : s = t := by
  rcases h with ⟨h1, rfl⟩ | ⟨h1, k, rfl, h2, _⟩ <;> rcases h' with ⟨h3, rfl⟩ | ⟨h3, j, rfl, h4, _⟩
  · rfl
  · exact absurd h1 h3
  · exact absurd h3 h1
  · rw [h2.only h4]
theorem sgn_zero {z : Int} (h : z = 0) : sgnI z = 0 := by simp [sgnI, h]
theorem sgn_ne {z : Int} (h : z ≠ 0) : (sgnI z == 0) = false := by
  unfold sgnI
  by_cases h1 : z < 0
  · rw [if_pos h1]; rfl
  · rw [if_neg h1, if_neg h]; rfl
theorem sg_nil {b : Bool} {n : Nat} : sg b n = 0 ↔ n = 0 := by cases b <;> simp [sg]
theorem sg_times {b : Bool} {n m : Nat} : sg b (n * m) = sg b n * (m : Int) := by cases b <;> simp [sg, Int.neg_mul]

set_option maxRecDepth 100000 in
set_option maxHeartbeats 1000000 in
theorem itwos_any (v : Value) (z : Int) (w : World) (h : IntAt w v z) (hT : TabW w) (hlen : (lim z.natAbs).length ≤ 1000000) :
    Calls Tryd.prog 27 #[v] w fun e w' => ∃ t : Int, e = .returned (.int .i64 t) ∧ ITw z t ∧ Below w.heap.size w w' := by
  have HI := hide h
  have HT := hide hT
  clear hT
  obtain ⟨b, n, a, c, rfl, hn, rfl, h0⟩ := h
  rw [sg_abs] at hlen
  have P0 := hide (Box.new w (.bool b) (.slice a (lim n).length c))
  have HB := hide (below_alloc w (.cells #[.bool b, .slice a (lim n).length c] 44))
  have HN := hide (hn.below HB.out)
  clear hn h0
  have p0 := P0.out.cell0
  have p1 := P0.out.cell1
  go_enter Tryd.func27, Tryd.ntmps27
  go_wp2_with fail
  refine (isign_any _ (sg b n) _ (HI.out.below HB.out)).mono ?_
  rintro e w1 ⟨rfl, hb⟩
  clear p0 p1
  replace P0 := hide (P0.out.step hb)
  replace HN := hide (HN.out.below hb)
  replace HB := hide (HB.out.trans (hb.mono HB.out.size))
  clear hb
  by_cases hz : sg b n = 0
  · rw [sgn_zero hz]
    have HZ := hide hz
    clear hz
    go_wp2
    go_ret
    exact ⟨-1, rfl, .inl ⟨HZ.out, rfl⟩, HB.out⟩
  · have hs := sgn_ne hz
    have HZ := hide hz
    clear hz
    have p1 := P0.out.cell1
    go_wp2_with fail
    refine (twos_any _ (lim n) _ HN.out (HT.out.below HB.out) hlen (by rw [val_lim]; exact fun e => HZ.out (sg_nil.2 e))).mono ?_
    rintro e w2 ⟨k, rfl, hk, hkb, rfl⟩
    rw [val_lim] at hk
    have HK := hide (And.intro hk hkb)
    clear hk hkb p1
    go_wp2
    go_ret
    exact ⟨k, rfl, .inr ⟨HZ.out, k, rfl, by rw [sg_abs]; exact HK.out.1, HK.out.2⟩, HB.out⟩

set_option maxRecDepth 100000 in
set_option maxHeartbeats 1000000 in
theorem ishl_gen (b : Bool) (n m : Nat) (a : Option Addr) (c : Nat) (N er : Int) (w : World) (hn : Nums w (.slice a (lim n).length c) (lim n))
    (hS : ∀ W, Nums W (.slice a (lim n).length c) (lim n) → Calls Tryd.prog 9 #[.slice a (lim n).length c, .int .i64 N] W fun e w' => ∃ v', e = .returned (.tuple #[v', .int .i64 er]) ∧ Nums w' v' (lim m) ∧ Below W.heap.size W w') :
    Calls Tryd.prog 31 #[.agg #[.bool b, .slice a (lim n).length c], .int .i64 N] w fun e w' => ∃ v', e = .returned (.tuple #[v', .int .i64 er]) ∧ IntAt w' v' (sg b m) ∧ Below w.heap.size w w' := by
  have HN := hide hn
  have HS := hide hS
  have HE := hide (boxes2 w (.bool b) (.slice a (lim n).length c) (.bool false) (.slice none 0 0))
  clear hn hS
  go_enter Tryd.func31, Tryd.ntmps31
  go_wp2_with fail
  refine (HS.out _ (HN.out.below HE.out.2.2)).mono ?_
  rintro e w1 ⟨v1, rfl, hN1, hb⟩
  have N1 := hide hN1
  have P0 := hide (HE.out.1.step hb)
  have P1 := hide (HE.out.2.1.step hb)
  have HB := hide (HE.out.2.2.trans (hb.mono HE.out.2.2.size))
  clear hb hN1 HE
  have p0 := P0.out.cell0
  go_wp2_with fail
  refine (made_any b m _ _ N1.out).mono ?_
  rintro e w2 ⟨v2, rfl, hI, hb⟩
  obtain ⟨b', n', a', c', rfl, hn', he, h0⟩ := hI
  clear p0
  replace P0 := hide (P0.out.step hb)
  replace P1 := hide (P1.out.step hb)
  replace HB := hide (HB.out.trans (hb.mono HB.out.size))
  have IO := hide (show IntAt w2 (.agg #[.bool b', .slice a' (lim n').length c']) (sg b m) from ⟨b', n', a', c', rfl, hn', he, h0⟩)
  clear hb hn' he h0
  have hc0 := P1.out.cell0
  have hc1 := P1.out.cell1
  have hf0 := P1.out.free 0
  have hf1 := P1.out.free 1
  go_wp2
  refine ret_one rfl (w.heap.size + 1) _ _ rfl (P1.out.put _ _) rfl ?_
  exact ⟨_, rfl, IO.out.keep (P1.out.keeps (by simp) (by simp) _ _), below_put HB.out (Nat.le_succ _) _ _⟩
set_option maxRecDepth 100000 in
set_option maxHeartbeats 1000000 in
theorem ishr_gen (b : Bool) (n m : Nat) (a : Option Addr) (c : Nat) (N er : Int) (w : World) (hi : IntAt w (.agg #[.bool b, .slice a (lim n).length c]) (sg b n)) (hn : Nums w (.slice a (lim n).length c) (lim n)) (hT : TabW w) (hlen : (lim n).length ≤ 1000000)
    (hK : n ≠ 0 → ∃ K : Nat, IsTwos n K ∧ N ≤ K)
    (hS : ∀ W, Nums W (.slice a (lim n).length c) (lim n) → Calls Tryd.prog 10 #[.slice a (lim n).length c, .int .i64 N] W fun e w' => ∃ v', e = .returned (.tuple #[v', .int .i64 er]) ∧ Nums w' v' (lim m) ∧ Below W.heap.size W w') :
    Calls Tryd.prog 32 #[.agg #[.bool b, .slice a (lim n).length c], .int .i64 N] w fun e w' => ∃ v', e = .returned (.tuple #[v', .int .i64 er]) ∧ IntAt w' v' (sg b m) ∧ Below w.heap.size w w' := by
  have HN := hide hn
  have HT := hide hT
  have HI := hide hi
  have HS := hide hS
  have HK := hide hK
  have HE := hide (boxes2 w (.bool b) (.slice a (lim n).length c) (.bool false) (.slice none 0 0))
  clear hn hS hT hi hK
  go_enter Tryd.func32, Tryd.ntmps32
  go_wp2_with fail
  refine (isign_any _ (sg b n) _ (HI.out.below HE.out.2.2)).mono ?_
  rintro e w0 ⟨rfl, hb⟩
  have P0 := hide (HE.out.1.step hb)
  have P1 := hide (HE.out.2.1.step hb)
  have HB := hide (HE.out.2.2.trans (hb.mono HE.out.2.2.size))
  clear hb HE
  by_cases hz : sg b n = 0
  · rw [sgn_zero hz]
    clear hz
    have p1 := P0.out.cell1
    go_wp2_with fail
    refine (HS.out _ (HN.out.below HB.out)).mono ?_
    rintro e w1 ⟨v1, rfl, hN1, hb⟩
    have N1 := hide hN1
    clear p1
    replace P0 := hide (P0.out.step hb)
    replace P1 := hide (P1.out.step hb)
    replace HB := hide (HB.out.trans (hb.mono HB.out.size))
    clear hb hN1
    have p0 := P0.out.cell0
    go_wp2_with fail
    refine (made_any b m _ _ N1.out).mono ?_
    rintro e w2 ⟨v2, rfl, hI, hb⟩
    obtain ⟨b', n', a', c', rfl, hn', he, h0⟩ := hI
    clear p0
    replace P0 := hide (P0.out.step hb)
    replace P1 := hide (P1.out.step hb)
    replace HB := hide (HB.out.trans (hb.mono HB.out.size))
    have IO := hide (show IntAt w2 (.agg #[.bool b', .slice a' (lim n').length c']) (sg b m) from ⟨b', n', a', c', rfl, hn', he, h0⟩)
    clear hb hn' he h0
    have hc0 := P1.out.cell0
    have hc1 := P1.out.cell1
    have hf0 := P1.out.free 0
    have hf1 := P1.out.free 1
    go_wp2
    refine ret_one rfl (w.heap.size + 1) _ _ rfl (P1.out.put _ _) rfl ?_
    exact ⟨_, rfl, IO.out.keep (P1.out.keeps (by simp) (by simp) _ _), below_put HB.out (Nat.le_succ _) _ _⟩
  · have hs := sgn_ne hz
    have HZ := hide hz
    clear hz
    generalize hsg : sgnI (sg b n) = sgz at *
    clear hsg
    have hs2 : (sgz != 0) = true := by rw [bne, hs]; rfl
    have hs3 : ¬ sgz = 0 := by simpa using hs
    have p0 := P0.out.cell0
    have p1 := P0.out.cell1
    go_wp2_with fail
    refine (itwos_any _ (sg b n) _ (HI.out.below HB.out) (HT.out.below HB.out) (by rw [sg_abs]; exact hlen)).mono ?_
    rintro e w00 ⟨t, rfl, ht, hb⟩
    replace P0 := hide (P0.out.step hb)
    replace P1 := hide (P1.out.step hb)
    replace HB := hide (HB.out.trans (hb.mono HB.out.size))
    clear hb p0 p1
    have hle : ¬ t < N := by
      rcases ht with ⟨h1, _⟩ | ⟨_, k, rfl, h2, _⟩
      · exact absurd h1 HZ.out
      · obtain ⟨K, h3, h4⟩ := HK.out (fun e => HZ.out (sg_nil.2 e))
        rw [sg_abs] at h2
        rw [h2.only h3]; omega
    clear ht
    have p1 := P0.out.cell1
    go_wp2_with fail
    refine (HS.out _ (HN.out.below HB.out)).mono ?_
    rintro e w1 ⟨v1, rfl, hN1, hb⟩
    have N1 := hide hN1
    clear p1
    replace P0 := hide (P0.out.step hb)
    replace P1 := hide (P1.out.step hb)
    replace HB := hide (HB.out.trans (hb.mono HB.out.size))
    clear hb hN1
    have p0 := P0.out.cell0
    go_wp2_with fail
    refine (made_any b m _ _ N1.out).mono ?_
    rintro e w2 ⟨v2, rfl, hI, hb⟩
    obtain ⟨b', n', a', c', rfl, hn', he, h0⟩ := hI
    clear p0
    replace P0 := hide (P0.out.step hb)
    replace P1 := hide (P1.out.step hb)
    replace HB := hide (HB.out.trans (hb.mono HB.out.size))
    have IO := hide (show IntAt w2 (.agg #[.bool b', .slice a' (lim n').length c']) (sg b m) from ⟨b', n', a', c', rfl, hn', he, h0⟩)
    clear hb hn' he h0
    have hc0 := P1.out.cell0
    have hc1 := P1.out.cell1
    have hf0 := P1.out.free 0
    have hf1 := P1.out.free 1
    go_wp2
    refine ret_one rfl (w.heap.size + 1) _ _ rfl (P1.out.put _ _) rfl ?_
    exact ⟨_, rfl, IO.out.keep (P1.out.keeps (by simp) (by simp) _ _), below_put HB.out (Nat.le_succ _) _ _⟩
set_option maxRecDepth 100000 in
set_option maxHeartbeats 1000000 in
theorem ishr_not (v : Value) (z : Int) (N K : Nat) (w : World) (hi : IntAt w v z) (hT : TabW w) (hlen : (lim z.natAbs).length ≤ 1000000) (hz : z ≠ 0) (hK : IsTwos z.natAbs K) (hKN : K < N) :
    Calls Tryd.prog 32 #[v, .int .i64 N] w fun e w' => ∃ v', e = .returned (.tuple #[v', .int .i64 20]) ∧ IntAt w' v' 0 ∧ Below w.heap.size w w' := by
  have HT := hide hT
  have HI := hide hi
  have HK := hide hK
  obtain ⟨b, n, a, c, rfl, hn, rfl, h0⟩ := hi
  have HE := hide (boxes2 w (.bool b) (.slice a (lim n).length c) (.bool false) (.slice none 0 0))
  have hs := sgn_ne hz
  have HZ := hide hz
  clear hn hT hK h0 hz
  go_enter Tryd.func32, Tryd.ntmps32
  go_wp2_with fail
  refine (isign_any _ (sg b n) _ (HI.out.below HE.out.2.2)).mono ?_
  rintro e w0 ⟨rfl, hb⟩
  have P0 := hide (HE.out.1.step hb)
  have P1 := hide (HE.out.2.1.step hb)
  have HB := hide (HE.out.2.2.trans (hb.mono HE.out.2.2.size))
  clear hb HE
  generalize hsg : sgnI (sg b n) = sgz at *
  clear hsg
  have hs2 : (sgz != 0) = true := by rw [bne, hs]; rfl
  have hs3 : ¬ sgz = 0 := by simpa using hs
  have p0 := P0.out.cell0
  have p1 := P0.out.cell1
  go_wp2_with fail
  refine (itwos_any _ (sg b n) _ (HI.out.below HB.out) (HT.out.below HB.out) hlen).mono ?_
  rintro e w00 ⟨t, rfl, ht, hb⟩
  replace P0 := hide (P0.out.step hb)
  replace P1 := hide (P1.out.step hb)
  replace HB := hide (HB.out.trans (hb.mono HB.out.size))
  clear hb p0 p1
  have hle : t < (N : Int) := by
    rcases ht with ⟨h1, _⟩ | ⟨_, k, rfl, h2, _⟩
    · exact absurd h1 HZ.out
    · rw [h2.only HK.out]; omega
  clear ht
  have hc0 := P1.out.cell0
  have hc1 := P1.out.cell1
  have hf0 := P1.out.free 0
  have hf1 := P1.out.free 1
  go_wp2
  refine ret_one rfl (w.heap.size + 1) _ _ rfl (P1.out.put _ _) rfl ?_
  exact ⟨_, rfl, by rw [← sg_zero false]; exact IntAt.mk (by rw [lim_zero]; exact Nums.nil_mk _ _ _ (Nat.zero_le _)) fun _ => rfl, below_put HB.out (Nat.le_succ _) _ _⟩
end Go.Proofs.YtamcmdabhlbnjaaDoor
