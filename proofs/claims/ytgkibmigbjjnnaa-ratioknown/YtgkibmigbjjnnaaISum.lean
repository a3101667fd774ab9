/- integer.Sum, integer.Product: all of a list together. -/
import Derived.Test.YtgkibmigbjjnnaaISmall
namespace Go.Proofs.Ytgkibmigbjjnnaa
open Go.RowKit

/-- a list of numbers in memory -/
def Ints (w : World) (v : Value) (zs : List Int) : Prop :=
  ∃ a cap, v = .slice a zs.length cap ∧ zs.length ≤ cap ∧ cap ≤ maxLen ∧ (zs ≠ [] → ∃ b off, a = some ⟨b, off, none⟩ ∧
    ∀ i, i < zs.length → ∃ s m c n, w.cell? ⟨b, off + i * 2, none⟩ = some (.bool s) ∧ w.cell? ⟨b, off + i * 2 + 1, none⟩ = some (.slice m n c) ∧ IntAt w (.agg #[.bool s, .slice m n c]) (zs.getD i 0))

theorem Ints.below {w w' : World} {v : Value} {zs : List Int} (h : Ints w v zs) (hb : Below w.heap.size w w') : Ints w' v zs := by
  obtain ⟨a, cap, rfl, h1, h2, h3⟩ := h
  refine ⟨a, cap, rfl, h1, h2, fun hx => ?_⟩
  obtain ⟨b, off, rfl, hc⟩ := h3 hx
  refine ⟨b, off, rfl, fun i hi => ?_⟩
  obtain ⟨s, m, c, n, k1, k2, k3⟩ := hc i hi
  exact ⟨s, m, c, n, (hb.cell (World.block_lt_of_cell? w _ k1)).trans k1, (hb.cell (World.block_lt_of_cell? w _ k2)).trans k2, k3.below hb⟩
theorem Ints.drew {w : World} {v : Value} {zs : List Int} (h : Ints w v zs) : Ints w.drew v zs := h
theorem Ints.nil (w : World) : Ints w (.slice none 0 0) [] := ⟨none, 0, rfl, Nat.le_refl _, Nat.zero_le _, fun h => absurd rfl h⟩

/-- the first k of a list, one behind the other -/
def accZ (f : Int → Int → Int) (z : Int) (zs : List Int) : Nat → Int
  | 0 => z
  | k + 1 => f (accZ f z zs k) (zs.getD k 0)

set_option maxRecDepth 100000 in
set_option maxHeartbeats 1000000 in
theorem iproduct_any (v : Value) (zs : List Int) (w : World) (h : Ints w v zs) (hs : ∀ k, k ≤ zs.length → (lim (accZ (· * ·) 1 zs k).natAbs).length ≤ 1000000000) (he : ∀ k, k < zs.length → (lim (zs.getD k 0).natAbs).length ≤ 1000000000) :
    Calls Try.prog 46 #[v] w fun e w' => ∃ v', e = .returned v' ∧ IntAt w' v' (accZ (· * ·) 1 zs zs.length) ∧ Below w.heap.size w w' := by
  have HI := hide h
  have HS := hide hs
  have HG := hide he
  obtain ⟨a, cap, rfl, hcap, hm, _⟩ := h
  clear hs he
  unfold maxLen at hm
  go_enter Try.func46, Try.ntmps46
  go_wp2_with fail
  refine (iof_any 1 _ (by decide) (by decide)).mono ?_
  rintro e w0 ⟨v0, rfl, ⟨b0, n0, a0, c0, rfl, hn0, he0, h00⟩, hb0⟩
  have HX0 := hide ((Box.new w _ _).step hb0)
  have HB0 := hide ((below_alloc w _).trans (hb0.mono (by simp)))
  have HI0 := hide (And.intro hn0 (And.intro he0 h00))
  have HG2 : Hid (w0.heap.size ≠ w.heap.size ∧ w.heap.size ≤ w0.heap.size) := hide (by have h1 := HB0.out.size; have h2 := HX0.out.lt; omega)
  clear hb0 hn0 he0 h00
  go_wp2
  go_loopw [9] (fun iv wr => ∃ k : Nat, k ≤ zs.length ∧ iv = .int .i64 k ∧ Below w.heap.size w wr ∧ Box wr w.heap.size (.bool false) (.slice none 0 0) ∧ ∃ s m c n, Box wr (w0.heap.size) (.bool s) (.slice m n c) ∧ IntAt wr (.agg #[.bool s, .slice m n c]) (accZ (· * ·) 1 zs k)) (fun iv _ => zs.length - (intOf iv).toNat)
  case atStart => exact ⟨0, Nat.zero_le _, rfl, HB0.out.trans ((below_alloc w0 _).mono HB0.out.size), HX0.out.step (below_alloc w0 _), b0, a0, c0, _, Box.new w0 _ _, b0, n0, a0, c0, rfl, HI0.out.1.below (below_alloc w0 _), HI0.out.2.1, HI0.out.2.2⟩
  case round =>
    obtain ⟨k, hk, rfl, hbel, hR, s, m, c, n, hS, hI⟩ := hrel
    have HBE := hide hbel
    have HR := hide hR
    have HSB := hide hS
    have HIA := hide hI
    clear hbel hR hS hI
    by_cases hlt : k < zs.length
    · obtain ⟨blk, off, rfl, hc⟩ : ∃ blk off, a = some ⟨blk, off, none⟩ ∧ ∃ s m c n, wr.cell? ⟨blk, off + k * 2, none⟩ = some (.bool s) ∧ wr.cell? ⟨blk, off + k * 2 + 1, none⟩ = some (.slice m n c) ∧ IntAt wr (.agg #[.bool s, .slice m n c]) (zs.getD k 0) := by
        obtain ⟨a', c', he, _, _, h3⟩ := HI.out.below HBE.out
        simp only [Value.slice.injEq] at he
        obtain ⟨rfl, _, rfl⟩ := he
        obtain ⟨b, off, rfl, h⟩ := h3 (by intro e; rw [e] at hlt; simp at hlt)
        exact ⟨b, off, rfl, h k hlt⟩
      obtain ⟨s', m', c', n', k1, k2, k3⟩ := hc
      have HK := hide k3
      have HSB1 := hide (HSB.out.step (below_alloc wr (.cells #[.bool s', .slice m' n' c'] 25)))
      have hs0 := HSB1.out.cell0
      have hs1 := HSB1.out.cell1
      clear k3
      go_wp2_with fail
      refine (imul_any _ _ (accZ (· * ·) 1 zs k) (zs.getD k 0) _ (HIA.out.below (below_alloc _ _)) (HK.out.below (below_alloc _ _)) (HS.out k hk) (HG.out k hlt)).mono ?_
      rintro e w1 ⟨v, rfl, ⟨b', n1, a', c1, rfl, hn', he, h0⟩, hb1⟩
      have HR1 := hide ((HR.out.step (below_alloc wr _)).step hb1)
      have HS1 := hide (HSB1.out.step hb1)
      have HB1 := hide (HBE.out.trans (((below_alloc wr _).trans (hb1.mono (by simp))).mono HBE.out.size))
      have HQ := hide (And.intro hn' (And.intro he h0))
      clear hb1 hs0 hs1 hn' he h0
      have hc0 := HS1.out.cell0
      have hc1 := HS1.out.cell1
      have hf0 := HS1.out.free 0
      have hf1 := HS1.out.free 1
      go_wp2
      go_roundw
      case rel =>
        have hne := HG2.out
        exact ⟨k + 1, by omega, by go_num, (HB1.out.setCell (p := ⟨w0.heap.size, 0, none⟩) hne.2 _).setCell (p := ⟨w0.heap.size, 1, none⟩) hne.2 _, (HR1.out.set_ne hne.1 _).set_ne hne.1 _, b', a', c1, _, (HS1.out.set0 _).set1 _, b', n1, a', c1, rfl, HS1.out.keeps (by simp) (by simp) _ _ _ _ HQ.out.1, HQ.out.2.1, HQ.out.2.2⟩
      case measure => simp [intOf]; omega
    · have e : k = zs.length := by omega
      subst e
      have hc0 := HR.out.cell0
      have hc1 := HR.out.cell1
      have hf0 := HR.out.free 0
      have hf1 := HR.out.free 1
      have hs0 := HSB.out.cell0
      have hs1 := HSB.out.cell1
      go_wp2
      refine ret_int rfl w.heap.size _ _ _ _ rfl ((HR.out.set0 _).set1 _) rfl ?_
      exact ⟨_, rfl, HIA.out.keep (HR.out.keeps (by simp) (by simp) _ _), (HBE.out.setCell (p := ⟨w.heap.size, 0, none⟩) (Nat.le_refl _) _).setCell (p := ⟨w.heap.size, 1, none⟩) (Nat.le_refl _) _⟩
end Go.Proofs.Ytgkibmigbjjnnaa
