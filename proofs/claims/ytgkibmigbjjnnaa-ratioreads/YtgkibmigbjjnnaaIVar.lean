/- A variable that holds a number; how great numbers get; lists of three. -/
import Derived.Test.YtgkibmigbjjnnaaISmall
import Derived.Test.YtgkibmigbjjnnaaBox
namespace Go.Proofs.Ytgkibmigbjjnnaa
open Go.RowKit

/-- a list of numbers in memory -/
def Ints (w : World) (v : Value) (zs : List Int) : Prop :=
  ∃ a cap, v = .slice a zs.length cap ∧ zs.length ≤ cap ∧ cap ≤ maxLen ∧ (zs ≠ [] → ∃ b off, a = some ⟨b, off, none⟩ ∧
    ∀ i, i < zs.length → ∃ s m c n, w.cell? ⟨b, off + i * 2, none⟩ = some (.bool s) ∧ w.cell? ⟨b, off + i * 2 + 1, none⟩ = some (.slice m n c) ∧ IntAt w (.agg #[.bool s, .slice m n c]) (zs.getD i 0))

theorem Ints.below {w w' : World} {v : Value} {zs : List Int} (h : Ints w v zs) (hb : Below w.heap.size w w') : Ints w' v zs := by
  obtain ⟨a, cap, rfl, h1, h2, h3⟩ := h
  refine ⟨a, cap, rfl, h1, h2, fun hx => ?_⟩
  obtain ⟨b, off, rfl, hc⟩ := h3 hx
  refine ⟨b, off, rfl, fun i hi => ?_⟩
  obtain ⟨s, m, c, n, k1, k2, k3⟩ := hc i hi
  exact ⟨s, m, c, n, (hb.cell (World.block_lt_of_cell? w _ k1)).trans k1, (hb.cell (World.block_lt_of_cell? w _ k2)).trans k2, k3.below hb⟩
theorem Ints.drew {w : World} {v : Value} {zs : List Int} (h : Ints w v zs) : Ints w.drew v zs := h
theorem Ints.nil (w : World) : Ints w (.slice none 0 0) [] := ⟨none, 0, rfl, Nat.le_refl _, Nat.zero_le _, fun h => absurd rfl h⟩

/-- the first k of a list, one behind the other -/
def accZ (f : Int → Int → Int) (z : Int) (zs : List Int) : Nat → Int
  | 0 => z
  | k + 1 => f (accZ f z zs k) (zs.getD k 0)

set_option maxRecDepth 100000 in
set_option maxHeartbeats 1000000 in
theorem iproduct_any (v : Value) (zs : List Int) (w : World) (h : Ints w v zs) (hs : ∀ k, k ≤ zs.length → (lim (accZ (· * ·) 1 zs k).natAbs).length ≤ 1000000000) (he : ∀ k, k < zs.length → (lim (zs.getD k 0).natAbs).length ≤ 1000000000) :
    Calls Try.prog 46 #[v] w fun e w' => ∃ v', e = .returned v' ∧ IntAt w' v' (accZ (· * ·) 1 zs zs.length) ∧ Below w.heap.size w w' := by
  have HI := hide h
  have HS := hide hs
  have HG := hide he
  obtain ⟨a, cap, rfl, hcap, hm, _⟩ := h
  clear hs he
  unfold maxLen at hm
  go_enter Try.func46, Try.ntmps46
  go_wp2_with fail
  refine (iof_any 1 _ (by decide) (by decide)).mono ?_
  rintro e w0 ⟨v0, rfl, ⟨b0, n0, a0, c0, rfl, hn0, he0, h00⟩, hb0⟩
  have HX0 := hide ((Box.new w _ _).step hb0)
  have HB0 := hide ((below_alloc w _).trans (hb0.mono (by simp)))
  have HI0 := hide (And.intro hn0 (And.intro he0 h00))
  have HG2 : Hid (w0.heap.size ≠ w.heap.size ∧ w.heap.size ≤ w0.heap.size) := hide (by have h1 := HB0.out.size; have h2 := HX0.out.lt; omega)
  clear hb0 hn0 he0 h00
  go_wp2
  go_loopw [9] (fun iv wr => ∃ k : Nat, k ≤ zs.length ∧ iv = .int .i64 k ∧ Below w.heap.size w wr ∧ Box wr w.heap.size (.bool false) (.slice none 0 0) ∧ ∃ s m c n, Box wr (w0.heap.size) (.bool s) (.slice m n c) ∧ IntAt wr (.agg #[.bool s, .slice m n c]) (accZ (· * ·) 1 zs k)) (fun iv _ => zs.length - (intOf iv).toNat)
  case atStart => exact ⟨0, Nat.zero_le _, rfl, HB0.out.trans ((below_alloc w0 _).mono HB0.out.size), HX0.out.step (below_alloc w0 _), b0, a0, c0, _, Box.new w0 _ _, b0, n0, a0, c0, rfl, HI0.out.1.below (below_alloc w0 _), HI0.out.2.1, HI0.out.2.2⟩
  case round =>
    obtain ⟨k, hk, rfl, hbel, hR, s, m, c, n, hS, hI⟩ := hrel
    have HBE := hide hbel
    have HR := hide hR
    have HSB := hide hS
    have HIA := hide hI
    clear hbel hR hS hI
    by_cases hlt : k < zs.length
    · obtain ⟨blk, off, rfl, hc⟩ : ∃ blk off, a = some ⟨blk, off, none⟩ ∧ ∃ s m c n, wr.cell? ⟨blk, off + k * 2, none⟩ = some (.bool s) ∧ wr.cell? ⟨blk, off + k * 2 + 1, none⟩ = some (.slice m n c) ∧ IntAt wr (.agg #[.bool s, .slice m n c]) (zs.getD k 0) := by
        obtain ⟨a', c', he, _, _, h3⟩ := HI.out.below HBE.out
        simp only [Value.slice.injEq] at he
        obtain ⟨rfl, _, rfl⟩ := he
        obtain ⟨b, off, rfl, h⟩ := h3 (by intro e; rw [e] at hlt; simp at hlt)
        exact ⟨b, off, rfl, h k hlt⟩
      obtain ⟨s', m', c', n', k1, k2, k3⟩ := hc
      have HK := hide k3
      have HSB1 := hide (HSB.out.step (below_alloc wr (.cells #[.bool s', .slice m' n' c'] 25)))
      have hs0 := HSB1.out.cell0
      have hs1 := HSB1.out.cell1
      clear k3
      go_wp2_with fail
      refine (imul_any _ _ (accZ (· * ·) 1 zs k) (zs.getD k 0) _ (HIA.out.below (below_alloc _ _)) (HK.out.below (below_alloc _ _)) (HS.out k hk) (HG.out k hlt)).mono ?_
      rintro e w1 ⟨v, rfl, ⟨b', n1, a', c1, rfl, hn', he, h0⟩, hb1⟩
      have HR1 := hide ((HR.out.step (below_alloc wr _)).step hb1)
      have HS1 := hide (HSB1.out.step hb1)
      have HB1 := hide (HBE.out.trans (((below_alloc wr _).trans (hb1.mono (by simp))).mono HBE.out.size))
      have HQ := hide (And.intro hn' (And.intro he h0))
      clear hb1 hs0 hs1 hn' he h0
      have hc0 := HS1.out.cell0
      have hc1 := HS1.out.cell1
      have hf0 := HS1.out.free 0
      have hf1 := HS1.out.free 1
      go_wp2
      go_roundw
      case rel =>
        have hne := HG2.out
        exact ⟨k + 1, by omega, by go_num, (HB1.out.setCell (p := ⟨w0.heap.size, 0, none⟩) hne.2 _).setCell (p := ⟨w0.heap.size, 1, none⟩) hne.2 _, (HR1.out.set_ne hne.1 _).set_ne hne.1 _, b', a', c1, _, (HS1.out.set0 _).set1 _, b', n1, a', c1, rfl, HS1.out.keeps (by simp) (by simp) _ _ _ _ HQ.out.1, HQ.out.2.1, HQ.out.2.2⟩
      case measure => simp [intOf]; omega
    · have e : k = zs.length := by omega
      subst e
      have hc0 := HR.out.cell0
      have hc1 := HR.out.cell1
      have hf0 := HR.out.free 0
      have hf1 := HR.out.free 1
      have hs0 := HSB.out.cell0
      have hs1 := HSB.out.cell1
      go_wp2
      refine ret_int rfl w.heap.size _ _ _ _ rfl ((HR.out.set0 _).set1 _) rfl ?_
      exact ⟨_, rfl, HIA.out.keep (HR.out.keeps (by simp) (by simp) _ _), (HBE.out.setCell (p := ⟨w.heap.size, 0, none⟩) (Nat.le_refl _) _).setCell (p := ⟨w.heap.size, 1, none⟩) (Nat.le_refl _) _⟩
end Go.Proofs.Ytgkibmigbjjnnaa

namespace Go.Proofs.Ytgkibmigbjjnnaa
open Go.RowKit


end Go.Proofs.Ytgkibmigbjjnnaa

namespace Go.Proofs.Ytgkibmigbjjnnaa
open Go.RowKit

/-- a variable of the walk: its block, its cells, the number that they say -/
structure Var (w : World) (g : Nat) (s : Bool) (m : Option Addr) (n c : Nat) (z : Int) : Prop where
  box : Box w g (.bool s) (.slice m n c)
  int : IntAt w (.agg #[.bool s, .slice m n c]) z
theorem Var.step {w w' : World} {g : Nat} {s : Bool} {m : Option Addr} {n c : Nat} {z : Int} (h : Var w g s m n c z) (hb : Below w.heap.size w w') : Var w' g s m n c z := ⟨h.box.step hb, h.int.below hb⟩
theorem Var.drew {w : World} {g : Nat} {s : Bool} {m : Option Addr} {n c : Nat} {z : Int} (h : Var w g s m n c z) : Var w.drew g s m n c z := ⟨h.box.drew, h.int.drew⟩
theorem Var.keep {w : World} {g B : Nat} {s : Bool} {m : Option Addr} {n c : Nat} {z : Int} {x y : Value} (h : Var w g s m n c z) (hX : Box w B x y) (hx : ∀ z, x ≠ .int .u32 z) (hy : ∀ z, y ≠ .int .u32 z) (hne : B ≠ g) (x' y' : Value) : Var ((w.setCell ⟨B, 0, none⟩ x').setCell ⟨B, 1, none⟩ y') g s m n c z :=
  ⟨(h.box.set_ne hne _).set_ne hne _, h.int.keep (hX.keeps hx hy _ _)⟩
/-- a number that is laid down in a new variable -/
theorem IntAt.var {w : World} {s : Bool} {m : Option Addr} {n c : Nat} {z : Int} (h : IntAt w (.agg #[.bool s, .slice m n c]) z) : Var (w.alloc (.cells #[.bool s, .slice m n c] 25)) w.heap.size s m n c z := ⟨Box.new _ _ _, h.below (below_alloc _ _)⟩

/-- of so many limbs at most -/
def SzI (k : Nat) (z : Int) : Prop := z.natAbs < BB ^ k
theorem SzI.mono {j k : Nat} {z : Int} (h : SzI j z) (hl : j ≤ k) : SzI k z := Nat.lt_of_lt_of_le h (Nat.pow_le_pow_right (by decide) hl)
theorem SzI.len {k : Nat} {z : Int} (h : SzI k z) (hk : k ≤ 1000000000) : (lim z.natAbs).length ≤ 1000000000 := Nat.le_trans (lim_length_le h) hk
theorem SzI.add {j k : Nat} {x y : Int} (h : SzI j x) (h' : SzI k y) : SzI (max j k + 1) (x + y) := by
  have h1 : x.natAbs < BB ^ max j k := h.mono (Nat.le_max_left _ _)
  have h2 : y.natAbs < BB ^ max j k := h'.mono (Nat.le_max_right _ _)
  unfold SzI
  rw [Nat.pow_succ]
  have : BB ^ max j k * 2 ≤ BB ^ max j k * BB := Nat.mul_le_mul_left _ (by decide)
  omega
theorem SzI.neg {k : Nat} {x : Int} (h : SzI k x) : SzI k (-x) := by unfold SzI at *; rwa [neg_abs]
theorem SzI.sub {j k : Nat} {x y : Int} (h : SzI j x) (h' : SzI k y) : SzI (max j k + 1) (x - y) := by
  rw [Int.sub_eq_add_neg]; exact h.add h'.neg
theorem SzI.mul {j k : Nat} {x y : Int} (h : SzI j x) (h' : SzI k y) : SzI (j + k) (x * y) := by
  unfold SzI at *; rw [Nat.pow_add, Int.natAbs_mul]
  exact Nat.mul_lt_mul_of_lt_of_le h (Nat.le_of_lt h') (Nat.pow_pos (by decide))
theorem SzI.zero : SzI 0 0 := by unfold SzI; decide
theorem SzI.one : SzI 1 1 := by unfold SzI; decide
theorem SzI.of {b : Bool} {xs : List Nat} {k : Nat} (h : Ok xs) (hl : xs.length ≤ k) : SzI k (sg b (val xs)) := by
  unfold SzI; rw [sg_abs]
  exact Nat.lt_of_lt_of_le (val_lt h) (Nat.pow_le_pow_right (by decide) hl)

theorem icmp_same (v1 v2 : Value) (x y : Int) (w : World) (h1 : IntAt w v1 x) (h2 : IntAt w v2 y) (e : x = y) :
    Calls Try.prog 37 #[v1, v2] w fun e w' => e = .returned (.int .i64 0) ∧ Below w.heap.size w w' := by
  subst e
  refine (icmp_any v1 v2 x x w h1 h2).mono ?_
  rintro e w' ⟨rfl, hb⟩
  exact ⟨by rw [cmpZ_eq], hb⟩

theorem isign_zero (v : Value) (z : Int) (w : World) (h : IntAt w v z) (e : z = 0) :
    Calls Try.prog 38 #[v] w fun e w' => e = .returned (.int .i64 0) ∧ Below w.heap.size w w' := by
  subst e
  refine (isign_any v 0 w h).mono ?_
  rintro e w' ⟨rfl, hb⟩
  exact ⟨rfl, hb⟩

theorem iproduct_three (v : Value) (x y z : Int) (w : World) (h : Ints w v [x, y, z]) (sx : SzI 60 x) (sy : SzI 60 y) (sz : SzI 60 z) :
    Calls Try.prog 46 #[v] w fun e w' => ∃ v', e = .returned v' ∧ IntAt w' v' (x * y * z) ∧ Below w.heap.size w w' := by
  refine (iproduct_any v [x, y, z] w h ?_ ?_).mono ?_
  · intro k hk
    match k, hk with
    | 0, _ => exact SzI.one.len (by decide)
    | 1, _ => exact (SzI.one.mul sx).len (by decide)
    | 2, _ => exact ((SzI.one.mul sx).mul sy).len (by decide)
    | 3, _ => exact (((SzI.one.mul sx).mul sy).mul sz).len (by decide)
  · intro k hk
    match k, hk with
    | 0, _ => exact sx.len (by decide)
    | 1, _ => exact sy.len (by decide)
    | 2, _ => exact sz.len (by decide)
  · rintro e w' ⟨v', rfl, hi, hb⟩
    refine ⟨v', rfl, ?_, hb⟩
    have : accZ (· * ·) 1 [x, y, z] 3 = x * y * z := by simp [accZ]
    exact this ▸ hi
theorem iproduct_none (w : World) :
    Calls Try.prog 46 #[.slice none 0 0] w fun e w' => ∃ v', e = .returned v' ∧ IntAt w' v' 1 ∧ Below w.heap.size w w' :=
  iproduct_any (.slice none 0 0) [] w (Ints.nil w) (fun k hk => (Nat.le_zero.1 hk) ▸ SzI.one.len (by decide)) (fun k hk => absurd hk (Nat.not_lt_zero _))

/-- three numbers laid down side by side -/
theorem ints_lit3 {w : World} {t : TypeId} {x y z : Int} {s1 s2 s3 : Bool} {m1 m2 m3 : Option Addr} {n1 n2 n3 c1 c2 c3 : Nat} (h1 : IntAt w (.agg #[.bool s1, .slice m1 n1 c1]) x) (h2 : IntAt w (.agg #[.bool s2, .slice m2 n2 c2]) y) (h3 : IntAt w (.agg #[.bool s3, .slice m3 n3 c3]) z) :
    Ints (w.alloc (.cells #[.bool s1, .slice m1 n1 c1, .bool s2, .slice m2 n2 c2, .bool s3, .slice m3 n3 c3] t)) (.slice (some ⟨w.heap.size, 0, none⟩) 3 3) [x, y, z] := by
  refine ⟨_, 3, rfl, by simp, by simp [maxLen], fun _ => ⟨w.heap.size, 0, rfl, fun i hi => ?_⟩⟩
  match i, hi with
  | 0, _ => exact ⟨s1, m1, c1, n1, by simp, by simp, h1.below (below_alloc _ _)⟩
  | 1, _ => exact ⟨s2, m2, c2, n2, by simp, by simp, h2.below (below_alloc _ _)⟩
  | 2, _ => exact ⟨s3, m3, c3, n3, by simp, by simp, h3.below (below_alloc _ _)⟩

theorem nboxes1 (t : TypeId) (w : World) (x y : Value) : Box2 (w.alloc (.cells #[x, y] t)) w.heap.size t x y ∧ Below w.heap.size w (w.alloc (.cells #[x, y] t)) := ⟨Box2.new _ _ _ _, below_alloc _ _⟩
theorem nboxes2 (t : TypeId) (w : World) (x y x' y' : Value) : Box2 ((w.alloc (.cells #[x, y] t)).alloc (.cells #[x', y'] t)) w.heap.size t x y ∧ Box2 ((w.alloc (.cells #[x, y] t)).alloc (.cells #[x', y'] t)) (w.heap.size + 1) t x' y' ∧ Below w.heap.size w ((w.alloc (.cells #[x, y] t)).alloc (.cells #[x', y'] t)) :=
  ⟨(Box2.new _ _ _ _).step (below_alloc _ _), by have := Box2.new (w.alloc (.cells #[x, y] t)) t x' y'; rwa [World.size_alloc] at this, (below_alloc _ _).trans ((below_alloc _ _).mono (by simp))⟩
theorem nboxes3 (t : TypeId) (w : World) (x y x' y' x'' y'' : Value) : Box2 (((w.alloc (.cells #[x, y] t)).alloc (.cells #[x', y'] t)).alloc (.cells #[x'', y''] t)) w.heap.size t x y ∧ Box2 (((w.alloc (.cells #[x, y] t)).alloc (.cells #[x', y'] t)).alloc (.cells #[x'', y''] t)) (w.heap.size + 1) t x' y' ∧
    Box2 (((w.alloc (.cells #[x, y] t)).alloc (.cells #[x', y'] t)).alloc (.cells #[x'', y''] t)) (w.heap.size + 1 + 1) t x'' y'' ∧ Below w.heap.size w (((w.alloc (.cells #[x, y] t)).alloc (.cells #[x', y'] t)).alloc (.cells #[x'', y''] t)) :=
  ⟨(nboxes2 t w x y x' y').1.step (below_alloc _ _), (nboxes2 t w x y x' y').2.1.step (below_alloc _ _), by have := Box2.new ((w.alloc (.cells #[x, y] t)).alloc (.cells #[x', y'] t)) t x'' y''; rwa [World.size_alloc, World.size_alloc] at this, (nboxes2 t w x y x' y').2.2.trans ((below_alloc _ _).mono (by simp; omega))⟩

end Go.Proofs.Ytgkibmigbjjnnaa
