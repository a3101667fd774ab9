/- swagelaw02.IntegerNames answers true, and turns nothing that was there. -/
import Derived.Test.YteogbhgogiaocaaDoorINm
import Derived.Test.YteogbhgogiaocaaDoorIBez
import Derived.Test.YteogbhgogiaocaaDoorIText
import Derived.Test.YteogbhgogiaocaaDoorCalmL
import Derived.Laws.BytesArg
import Derived.OwnWalk
namespace Go.Proofs.YteogbhgogiaocaaDoor
open Go.RowKit

def u8s (l : List Int) : List Value := l.map (Value.int .u8)
abbrev OwnU (w : World) (base : Nat) (v : Value) (l : List Int) : Prop := w.ownsRow base 5 1 v l.length (u8s l)
theorem OwnU.cell {w : World} {base g n c : Nat} {l : List Int} (h : OwnU w base (.slice (some ⟨g, 0, none⟩) n c) l) {k : Nat} (hk : k < l.length) : w.cell? ⟨g, k, none⟩ = some (.int .u8 (l.getD k 0)) := by
  rcases h.2 with ⟨h0, _⟩ | ⟨g', cap, cur, h0, _, _, _, _, _⟩
  · cases h0
  · simp only [Value.slice.injEq, Option.some.injEq, Addr.mk.injEq, and_true] at h0
    obtain ⟨rfl, rfl, rfl⟩ := h0
    have a0 := h.cells (g := g) rfl k (.int .u8 (l.getD k 0)) (by simp [u8s, hk])
    have hadd : ∀ j, (⟨g, 0, none⟩ : Addr).add j = ⟨g, 0 + j, none⟩ := fun j => by unfold Addr.add; split <;> simp_all
    rw [hadd, Nat.zero_add] at a0
    exact a0
theorem OwnU.frozen {w : World} {base g n c : Nat} {l : List Int} (h : OwnU w base (.slice (some ⟨g, 0, none⟩) n c) l) (k : Nat) : w.frozen? ⟨g, k, none⟩ = false := by
  rcases h.2 with ⟨h0, _⟩ | ⟨g', cap, cur, h0, _⟩
  · cases h0
  · simp only [Value.slice.injEq, Option.some.injEq, Addr.mk.injEq, and_true] at h0
    obtain ⟨rfl, rfl, rfl⟩ := h0
    exact World.ownsRow.frozenAt h k
theorem OwnU.store {w : World} {base g c n t : Nat} {d : Int} {L : List Int} (h : OwnU w base (.slice (some ⟨g, 0, none⟩) n c) L) : OwnU (w.setCell ⟨g, t, none⟩ (.int .u8 d)) base (.slice (some ⟨g, 0, none⟩) n c) (L.set t d) := by
  have e : (L.set t d).length = L.length := List.length_set ..
  show World.ownsRow _ _ _ _ _ (L.set t d).length _
  rw [e]
  refine ⟨by simp [u8s], .inr ?_⟩
  rcases h.2 with ⟨h0, _⟩ | ⟨g', cap, cur, h0, hg, hh, h1, h2, h3, h4⟩
  · cases h0
  · simp only [Value.slice.injEq, Option.some.injEq, Addr.mk.injEq, and_true] at h0
    obtain ⟨rfl, rfl, rfl⟩ := h0
    refine ⟨g, c, cur.setIfInBounds t (.int .u8 d), rfl, hg, ?_, h1, h2, by simpa using h3, ?_⟩
    · obtain ⟨hlt, hk⟩ := Array.getElem?_eq_some_iff.1 hh
      show (w.heap.modify g _)[g]? = _
      rw [Array.getElem?_eq_getElem (by rw [Array.size_modify]; exact hlt), Array.getElem_modify_self, hk]
      rfl
    · rw [Array.toList_setIfInBounds, List.take_set, h4]
      simp [u8s, List.map_set]
theorem made_u8 (n : Nat) : (madeCells #[.int .u8 0] n).toList = u8s (List.replicate n 0) := by
  rw [toList_madeCells_one]; simp [u8s]
theorem info_u8 : (Tryd.prog.info? 5).map (fun i => (i.zero, i.size, i.bytes)) = some (some (.int .u8 0), 1, 1) := by kernel_rfl
theorem own_made {w : World} {base n : Nat} {v : Value} (h : w.ownsRow base 5 1 v n (madeCells #[.int .u8 0] n).toList) : ∃ l : List Int, l.length = n ∧ OwnU w base v l := by
  refine ⟨List.replicate n 0, List.length_replicate .., ?_⟩
  show World.ownsRow _ _ _ _ _ (List.replicate n (0 : Int)).length _
  rw [List.length_replicate, ← made_u8]
  exact h
theorem strOf_size (l : List Int) : (strOfNums l).size = l.length := by simp [strOfNums, ByteArray.size]
theorem ird_long {s : ByteArray} {z : Int} {a b : Nat} (hs : s.size = 65537) (h : IRd s z a b) : z = 0 ∧ a = 3 ∧ b = 65536 := by
  rcases h with ⟨_, h1, h2, h3⟩ | ⟨h1, _⟩ | ⟨h1, _⟩
  · exact ⟨h1, h2, h3⟩
  · omega
  · omega
theorem len_one {L : Nat} (h : IsLen (1 : Int).natAbs L) : L = 1 := h.only (show IsLen 1 1 from ⟨by decide, fun _ => ⟨by decide, by decide⟩⟩) (by decide)
theorem pow_a {w w' : World} {r : Ending} (h : IPwP 1 65536 w r w') : ∃ v, r = .returned (.tuple #[v, .int .i64 0]) ∧ IntAt w' v 1 ∧ Below w.heap.size w w' := by
  obtain ⟨v, z, a, L, rfl, hi, hl, _, hp, hb⟩ := h
  obtain rfl := len_one hl
  rcases hp with ⟨h1, _⟩ | ⟨_, _, h1, _⟩ | ⟨_, _, rfl, rfl⟩
  · exact absurd h1 (by decide)
  · exact absurd h1 (by decide)
  · rw [Int.one_pow] at hi; exact ⟨v, rfl, hi, hb⟩
theorem pow_b {w w' : World} {r : Ending} (h : IPwP 1 65537 w r w') : ∃ v, r = .returned (.tuple #[v, .int .i64 3]) ∧ IntAt w' v 0 ∧ Below w.heap.size w w' := by
  obtain ⟨v, z, a, L, rfl, hi, hl, _, hp, hb⟩ := h
  obtain rfl := len_one hl
  rcases hp with ⟨h1, _⟩ | ⟨_, _, _, rfl, rfl⟩ | ⟨_, h1, _⟩
  · exact absurd h1 (by decide)
  · exact ⟨v, rfl, hi, hb⟩
  · rcases h1 with h1 | h1
    · exact absurd h1 (by decide)
    · exact absurd h1 (by decide)
theorem zero_pw {e : Int} (h : 1 ≤ e.toNat) : (0 : Int) ^ e.toNat = 0 := by
  obtain ⟨n, hn⟩ : ∃ n, e.toNat = n + 1 := ⟨e.toNat - 1, by omega⟩
  rw [hn, Int.pow_succ, Int.mul_zero]
theorem pow_c {w w' : World} {r : Ending} (h : IPwP 0 4611686018427387904 w r w') : ∃ v, r = .returned (.tuple #[v, .int .i64 0]) ∧ IntAt w' v 0 ∧ Below w.heap.size w w' := by
  obtain ⟨v, z, a, L, rfl, hi, hl, hle, hp, hb⟩ := h
  have hL : L = 0 := by
    have : (lim (0 : Int).natAbs).length = 0 := rfl
    omega
  subst hL
  rcases hp with ⟨h1, _⟩ | ⟨_, h1, _⟩ | ⟨_, _, rfl, rfl⟩
  · exact absurd h1 (by decide)
  · omega
  · rw [zero_pw (by decide)] at hi; exact ⟨v, rfl, hi, hb⟩
theorem itxt_none : itxt 0 = ⟨#[48]⟩ := by
  have hn : nd 0 = 0 := nd_unique (by decide) (.inl rfl)
  unfold itxt dec
  rw [show (0 : Int).natAbs = 0 from rfl, hn]
  decide
theorem len_none {L : Nat} (h : L ≤ 32 * (lim (0 : Int).natAbs).length) : L = 0 := by
  have : (lim (0 : Int).natAbs).length = 0 := rfl
  omega
theorem bez_none {g u v : Int} (h : BezAt 0 0 g u v) : g = 0 ∧ u = 0 ∧ v = 0 := by
  obtain ⟨h1, _, h3, _⟩ := h
  obtain ⟨h4, h5⟩ := h3 rfl
  exact ⟨h1, h4, h5⟩
theorem int0 (w : World) : IntAt w (.agg #[.bool false, .slice none 0 0]) 0 := ⟨false, 0, none, 0, rfl, Nums.nil_mk _ _ _ (Nat.zero_le _), rfl, fun _ => rfl⟩

set_option maxRecDepth 100000 in
set_option maxHeartbeats 16000000 in
theorem inames_walk (w : World) : Calls Tryd.prog 3 #[] w fun e w' => e = .returned (.bool true) ∧ Below w.heap.size w w' := by
  obtain ⟨i0, hi, hz0, hz1, hz2⟩ := info_parts info_u8
  go_enter Tryd.func3, Tryd.ntmps3
  go_wp2_with fail
  refine (live_any _).mono ?_
  rintro e w1 ⟨rfl, hb⟩
  have HB := hide hb
  clear hb
  go_upto_region 4 with fail
  have hb := below_alloc w1 (.cells #[.bool false, .slice none 0 0] 25)
  have BZ := hide (Box.new w1 (.bool false) (.slice none 0 0))
  replace HB := hide (HB.out.trans (hb.mono HB.out.size))
  clear hb
  generalize w1.alloc (.cells #[.bool false, .slice none 0 0] 25) = w2 at *
  generalize w1.heap.size = gz at *
  have c00 := BZ.out.cell0
  have c01 := BZ.out.cell1
  go_wp2_with fail
  refine (ilimbs_any _ 0 _ (int0 _) (by decide)).mono ?_
  rintro e w3 ⟨l, rfl, hl, hb⟩
  obtain ⟨al, cl, rfl⟩ := nums_noneI (show Nums w3 l [] from hl)
  replace HB := hide (HB.out.trans (hb.mono HB.out.size))
  replace BZ := hide (BZ.out.step hb)
  clear hb hl
  clear c00 c01
  have c00 := BZ.out.cell0
  have c01 := BZ.out.cell1
  go_wp2_with fail
  refine (ibezout_any _ _ 0 0 1 _ (int0 _) (int0 _) (show (0 : Int).natAbs < BB ^ 1 from by decide) (show (0 : Int).natAbs < BB ^ 1 from by decide) (by decide)).mono ?_
  rintro e w4 ⟨a1, a2, a3, g, u, v, rfl, i1, i2, i3, hz, hb⟩
  obtain ⟨rfl, rfl, rfl⟩ := bez_none hz
  clear hz
  replace HB := hide (HB.out.trans (hb.mono HB.out.size))
  replace BZ := hide (BZ.out.step hb)
  obtain ⟨m1, k1, rfl, _⟩ := int_none i1
  have I1 := hide i1
  clear i1
  obtain ⟨m2, k2, rfl, _⟩ := int_none i2
  have I2 := hide i2
  clear i2
  obtain ⟨m3, k3, rfl, _⟩ := int_none i3
  have I3 := hide i3
  clear i3
  clear hb
  clear c00 c01
  go_upto_region 6 with fail
  have hb0 := below_alloc w4 (.cells #[.bool false, .slice m1 0 k1] 25)
  have hb1 := below_alloc (w4.alloc (.cells #[.bool false, .slice m1 0 k1] 25)) (.cells #[.bool false, .slice m2 0 k2] 25)
  have hb2 := below_alloc ((w4.alloc (.cells #[.bool false, .slice m1 0 k1] 25)).alloc (.cells #[.bool false, .slice m2 0 k2] 25)) (.cells #[.bool false, .slice m3 0 k3] 25)
  have B1 := hide (((Box.new w4 (.bool false) (.slice m1 0 k1)).step hb1).step hb2)
  have B2 := hide ((Box.new (w4.alloc (.cells #[.bool false, .slice m1 0 k1] 25)) (.bool false) (.slice m2 0 k2)).step hb2)
  simp only [World.size_alloc] at B2
  have B3 := hide (Box.new ((w4.alloc (.cells #[.bool false, .slice m1 0 k1] 25)).alloc (.cells #[.bool false, .slice m2 0 k2] 25)) (.bool false) (.slice m3 0 k3))
  simp only [World.size_alloc] at B3
  replace HB := hide (HB.out.trans (hb0.mono HB.out.size))
  replace BZ := hide (BZ.out.step hb0)
  replace I1 := hide (I1.out.below hb0)
  replace I2 := hide (I2.out.below hb0)
  replace I3 := hide (I3.out.below hb0)
  replace HB := hide (HB.out.trans (hb1.mono HB.out.size))
  replace BZ := hide (BZ.out.step hb1)
  replace I1 := hide (I1.out.below hb1)
  replace I2 := hide (I2.out.below hb1)
  replace I3 := hide (I3.out.below hb1)
  replace HB := hide (HB.out.trans (hb2.mono HB.out.size))
  replace BZ := hide (BZ.out.step hb2)
  replace I1 := hide (I1.out.below hb2)
  replace I2 := hide (I2.out.below hb2)
  replace I3 := hide (I3.out.below hb2)
  clear hb0 hb1 hb2
  generalize (((w4.alloc (.cells #[.bool false, .slice m1 0 k1] 25)).alloc (.cells #[.bool false, .slice m2 0 k2] 25)).alloc (.cells #[.bool false, .slice m3 0 k3] 25)) = w5 at *
  obtain ⟨g3, hg⟩ : ∃ q, q = w4.heap.size + 1 + 1 := ⟨_, rfl⟩
  rw [← hg] at B3 ⊢
  clear hg
  obtain ⟨g2, hg⟩ : ∃ q, q = w4.heap.size + 1 := ⟨_, rfl⟩
  rw [← hg] at B2 ⊢
  clear hg
  obtain ⟨g1, hg⟩ : ∃ q, q = w4.heap.size := ⟨_, rfl⟩
  rw [← hg] at B1 ⊢
  clear hg
  go_wp2_with (at_make; refine wpList_make_full _ rfl _ _ 30 rfl w5.heap.size 5 i0 (.int .u8 0) 1 Tryd.underlying30 hi hz0 hz1 _ _ _ _ 65537 rfl rfl rfl rfl (by rw [hz2]; omega) (by unfold maxLen; omega) (Nat.le_refl _) ?_)
  intro w6 hown hgrow
  have hb : Below w5.heap.size w5 w6 := (Below.refl _ _).grown hgrow (Nat.le_refl _) (fun k hk => by simp at hk)
  obtain ⟨l0, hl0, hO⟩ := own_made hown
  have O0 := hide hO
  have HB6 := hide hb
  clear hown hgrow hb hO
  obtain ⟨gL, hgL⟩ : ∃ q, q = w5.heap.size := ⟨_, rfl⟩
  have GL := hide (Nat.le_of_eq hgL.symm)
  rw [← hgL] at ⊢
  have O1 : Hid (OwnU w6 w5.heap.size (.slice (some ⟨gL, 0, none⟩) 65537 65537) l0) := hide (by rw [hgL]; exact O0.out)
  clear hgL O0
  go_upto_region 8 with fail
  obtain ⟨N, hN⟩ : ∃ N : Nat, 65537 = N := ⟨_, rfl⟩
  have HN := hide hN.symm
  rw [hN] at hl0 O1 ⊢
  clear hN
  go_loopw [8] (fun kv wr => ∃ (k : Nat) (l : List Int), k ≤ N ∧ kv = .int .i64 k ∧ l.length = N ∧ OwnU wr w5.heap.size (.slice (some ⟨gL, 0, none⟩) N N) l ∧ Below w5.heap.size w5 wr) (fun kv _ => N - (intOf kv).toNat)
  case atStart => exact ⟨0, l0, Nat.zero_le _, rfl, hl0, O1.out, HB6.out⟩
  case round =>
    clear O1 HB6 hl0
    obtain ⟨k, l, hk, rfl, hl, hO, hb⟩ := hrel
    have OL := hide hO
    have HW := hide hb
    have LL := hide hl
    clear hO hb hl
    have nb : N ≤ 70000 := by have := HN.out; omega
    by_cases hlt : k < N
    · have ck := OwnU.cell OL.out (k := k) (by rw [LL.out]; exact hlt)
      have fk := OwnU.frozen OL.out k
      go_wp2
      go_roundw
      case rel => exact ⟨k + 1, l.set k 49, by omega, by go_num, by rw [List.length_set]; exact LL.out, OwnU.store OL.out, HW.out.setCell (p := ⟨gL, k, none⟩) GL.out _⟩
      case measure => simp [intOf]; omega
    · have e5 : k = N := by omega
      subst e5
      clear hlt hk
      have hconv := run_convert_bytes_arg (P := Tryd.prog) wr 30 5 Tryd.underlying30 Tryd.underlying5 gL 0 k k l LL.out (fun i hi => by rw [Nat.zero_add]; exact OwnU.cell OL.out (by rw [LL.out]; exact hi)) 9 Tryd.underlying9
      obtain ⟨s, hs⟩ : ∃ s, s = strOfNums l := ⟨_, rfl⟩
      rw [← hs] at hconv
      have SZ : Hid (s.size = 65537) := hide (by rw [hs, strOf_size, LL.out]; exact HN.out)
      clear hs
      replace HB := hide (HB.out.trans (HW.out.mono HB.out.size))
      replace BZ := hide (BZ.out.step HW.out)
      replace B1 := hide (B1.out.step HW.out)
      replace B2 := hide (B2.out.step HW.out)
      replace B3 := hide (B3.out.step HW.out)
      replace I1 := hide (I1.out.below HW.out)
      replace I2 := hide (I2.out.below HW.out)
      replace I3 := hide (I3.out.below HW.out)
      clear HW OL
      go_wp2_with fail
      clear hconv
      refine (iread_any s _ (by rw [SZ.out]; decide)).mono ?_
      rintro e w7 ⟨vx, z, a, b, rfl, ix, hr, hb⟩
      obtain ⟨rfl, rfl, rfl⟩ := ird_long SZ.out hr
      clear hr
      replace HB := hide (HB.out.trans (hb.mono HB.out.size))
      replace BZ := hide (BZ.out.step hb)
      replace B1 := hide (B1.out.step hb)
      replace B2 := hide (B2.out.step hb)
      replace B3 := hide (B3.out.step hb)
      replace I1 := hide (I1.out.below hb)
      replace I2 := hide (I2.out.below hb)
      replace I3 := hide (I3.out.below hb)
      obtain ⟨m4, k4, rfl, _⟩ := int_none ix
      have I4 := hide ix
      clear ix hb
      go_upto_region 12 with fail
      have hb0 := below_alloc w7 (.cells #[.bool false, .slice m4 0 k4] 25)
      have hb1 := below_alloc (w7.alloc (.cells #[.bool false, .slice m4 0 k4] 25)) (.cells #[.int .i64 3, .int .i64 65536] 33)
      have B4 := hide ((Box.new w7 (.bool false) (.slice m4 0 k4)).step hb1)
      have B5 := hide (Box2.new (w7.alloc (.cells #[.bool false, .slice m4 0 k4] 25)) 33 (.int .i64 3) (.int .i64 65536))
      simp only [World.size_alloc] at B5
      replace HB := hide (HB.out.trans (hb0.mono HB.out.size))
      replace BZ := hide (BZ.out.step hb0)
      replace B1 := hide (B1.out.step hb0)
      replace B2 := hide (B2.out.step hb0)
      replace B3 := hide (B3.out.step hb0)
      replace I1 := hide (I1.out.below hb0)
      replace I2 := hide (I2.out.below hb0)
      replace I3 := hide (I3.out.below hb0)
      replace I4 := hide (I4.out.below hb0)
      replace HB := hide (HB.out.trans (hb1.mono HB.out.size))
      replace BZ := hide (BZ.out.step hb1)
      replace B1 := hide (B1.out.step hb1)
      replace B2 := hide (B2.out.step hb1)
      replace B3 := hide (B3.out.step hb1)
      replace I1 := hide (I1.out.below hb1)
      replace I2 := hide (I2.out.below hb1)
      replace I3 := hide (I3.out.below hb1)
      replace I4 := hide (I4.out.below hb1)
      clear hb0 hb1
      generalize ((w7.alloc (.cells #[.bool false, .slice m4 0 k4] 25)).alloc (.cells #[.int .i64 3, .int .i64 65536] 33)) = w8 at *
      obtain ⟨g5, hg⟩ : ∃ q, q = w7.heap.size + 1 := ⟨_, rfl⟩
      rw [← hg] at B5 ⊢
      clear hg
      obtain ⟨g4, hg⟩ : ∃ q, q = w7.heap.size := ⟨_, rfl⟩
      rw [← hg] at B4 ⊢
      clear hg
      go_wp2_with fail
      refine (iof_any 1 _ (by decide) (by decide)).mono ?_
      rintro e w9 ⟨v1, rfl, i1, hb⟩
      replace HB := hide (HB.out.trans (hb.mono HB.out.size))
      replace BZ := hide (BZ.out.step hb)
      replace B1 := hide (B1.out.step hb)
      replace B2 := hide (B2.out.step hb)
      replace B3 := hide (B3.out.step hb)
      replace B4 := hide (B4.out.step hb)
      replace B5 := hide (B5.out.step hb)
      replace I1 := hide (I1.out.below hb)
      replace I2 := hide (I2.out.below hb)
      replace I3 := hide (I3.out.below hb)
      replace I4 := hide (I4.out.below hb)
      have J1 := hide i1
      clear i1 hb
      go_wp2_with fail
      refine (ipow_any _ 1 65536 _ J1.out (by decide) (by decide) (by decide)).mono ?_
      intro e w10 hp
      obtain ⟨vp, rfl, ip, hb⟩ := pow_a hp
      clear hp
      replace HB := hide (HB.out.trans (hb.mono HB.out.size))
      replace BZ := hide (BZ.out.step hb)
      replace B1 := hide (B1.out.step hb)
      replace B2 := hide (B2.out.step hb)
      replace B3 := hide (B3.out.step hb)
      replace B4 := hide (B4.out.step hb)
      replace B5 := hide (B5.out.step hb)
      replace I1 := hide (I1.out.below hb)
      replace I2 := hide (I2.out.below hb)
      replace I3 := hide (I3.out.below hb)
      replace I4 := hide (I4.out.below hb)
      clear hb J1
      obtain ⟨s6, m6, n6, k6, rfl, ip⟩ := ip.cells
      have I6 := hide ip
      clear ip
      go_upto_region 13 with fail
      have hb0 := below_alloc w10 (.cells #[.bool s6, .slice m6 n6 k6] 25)
      have B6 := hide (Box.new w10 (.bool s6) (.slice m6 n6 k6))
      replace HB := hide (HB.out.trans (hb0.mono HB.out.size))
      replace BZ := hide (BZ.out.step hb0)
      replace B1 := hide (B1.out.step hb0)
      replace B2 := hide (B2.out.step hb0)
      replace B3 := hide (B3.out.step hb0)
      replace B4 := hide (B4.out.step hb0)
      replace B5 := hide (B5.out.step hb0)
      replace I1 := hide (I1.out.below hb0)
      replace I2 := hide (I2.out.below hb0)
      replace I3 := hide (I3.out.below hb0)
      replace I4 := hide (I4.out.below hb0)
      replace I6 := hide (I6.out.below hb0)
      clear hb0
      generalize (w10.alloc (.cells #[.bool s6, .slice m6 n6 k6] 25)) = w11 at *
      obtain ⟨g6, hg⟩ : ∃ q, q = w10.heap.size := ⟨_, rfl⟩
      rw [← hg] at B6 ⊢
      clear hg
      go_wp2_with fail
      refine (iof_any 1 _ (by decide) (by decide)).mono ?_
      rintro e w12 ⟨v1, rfl, i1, hb⟩
      replace HB := hide (HB.out.trans (hb.mono HB.out.size))
      replace BZ := hide (BZ.out.step hb)
      replace B1 := hide (B1.out.step hb)
      replace B2 := hide (B2.out.step hb)
      replace B3 := hide (B3.out.step hb)
      replace B4 := hide (B4.out.step hb)
      replace B5 := hide (B5.out.step hb)
      replace B6 := hide (B6.out.step hb)
      replace I1 := hide (I1.out.below hb)
      replace I2 := hide (I2.out.below hb)
      replace I3 := hide (I3.out.below hb)
      replace I4 := hide (I4.out.below hb)
      replace I6 := hide (I6.out.below hb)
      have J1 := hide i1
      clear i1 hb
      go_wp2_with fail
      refine (ipow_any _ 1 65537 _ J1.out (by decide) (by decide) (by decide)).mono ?_
      intro e w13 hp
      obtain ⟨vp, rfl, ip, hb⟩ := pow_b hp
      clear hp
      replace HB := hide (HB.out.trans (hb.mono HB.out.size))
      replace BZ := hide (BZ.out.step hb)
      replace B1 := hide (B1.out.step hb)
      replace B2 := hide (B2.out.step hb)
      replace B3 := hide (B3.out.step hb)
      replace B4 := hide (B4.out.step hb)
      replace B5 := hide (B5.out.step hb)
      replace B6 := hide (B6.out.step hb)
      replace I1 := hide (I1.out.below hb)
      replace I2 := hide (I2.out.below hb)
      replace I3 := hide (I3.out.below hb)
      replace I4 := hide (I4.out.below hb)
      replace I6 := hide (I6.out.below hb)
      clear hb J1
      obtain ⟨s7, m7, n7, k7, rfl, ip⟩ := ip.cells
      have I7 := hide ip
      clear ip
      go_upto_region 14 with fail
      have hb0 := below_alloc w13 (.cells #[.bool s7, .slice m7 n7 k7] 25)
      have B7 := hide (Box.new w13 (.bool s7) (.slice m7 n7 k7))
      replace HB := hide (HB.out.trans (hb0.mono HB.out.size))
      replace BZ := hide (BZ.out.step hb0)
      replace B1 := hide (B1.out.step hb0)
      replace B2 := hide (B2.out.step hb0)
      replace B3 := hide (B3.out.step hb0)
      replace B4 := hide (B4.out.step hb0)
      replace B5 := hide (B5.out.step hb0)
      replace B6 := hide (B6.out.step hb0)
      replace I1 := hide (I1.out.below hb0)
      replace I2 := hide (I2.out.below hb0)
      replace I3 := hide (I3.out.below hb0)
      replace I4 := hide (I4.out.below hb0)
      replace I6 := hide (I6.out.below hb0)
      replace I7 := hide (I7.out.below hb0)
      clear hb0
      generalize (w13.alloc (.cells #[.bool s7, .slice m7 n7 k7] 25)) = w14 at *
      obtain ⟨g7, hg⟩ : ∃ q, q = w13.heap.size := ⟨_, rfl⟩
      rw [← hg] at B7 ⊢
      clear hg
      have c00 := BZ.out.cell0
      have c01 := BZ.out.cell1
      go_wp2_with fail
      refine (ipow_any _ 0 4611686018427387904 _ (int0 _) (by decide) (by decide) (by decide)).mono ?_
      intro e w15 hp
      obtain ⟨vp, rfl, ip, hb⟩ := pow_c hp
      clear hp
      replace HB := hide (HB.out.trans (hb.mono HB.out.size))
      replace BZ := hide (BZ.out.step hb)
      replace B1 := hide (B1.out.step hb)
      replace B2 := hide (B2.out.step hb)
      replace B3 := hide (B3.out.step hb)
      replace B4 := hide (B4.out.step hb)
      replace B5 := hide (B5.out.step hb)
      replace B6 := hide (B6.out.step hb)
      replace B7 := hide (B7.out.step hb)
      replace I1 := hide (I1.out.below hb)
      replace I2 := hide (I2.out.below hb)
      replace I3 := hide (I3.out.below hb)
      replace I4 := hide (I4.out.below hb)
      replace I6 := hide (I6.out.below hb)
      replace I7 := hide (I7.out.below hb)
      clear hb
      clear c00 c01
      obtain ⟨s8, m8, n8, k8, rfl, ip⟩ := ip.cells
      have I8 := hide ip
      clear ip
      go_upto_region 15 with fail
      have hb0 := below_alloc w15 (.cells #[.bool s8, .slice m8 n8 k8] 25)
      have B8 := hide (Box.new w15 (.bool s8) (.slice m8 n8 k8))
      replace HB := hide (HB.out.trans (hb0.mono HB.out.size))
      replace BZ := hide (BZ.out.step hb0)
      replace B1 := hide (B1.out.step hb0)
      replace B2 := hide (B2.out.step hb0)
      replace B3 := hide (B3.out.step hb0)
      replace B4 := hide (B4.out.step hb0)
      replace B5 := hide (B5.out.step hb0)
      replace B6 := hide (B6.out.step hb0)
      replace B7 := hide (B7.out.step hb0)
      replace I1 := hide (I1.out.below hb0)
      replace I2 := hide (I2.out.below hb0)
      replace I3 := hide (I3.out.below hb0)
      replace I4 := hide (I4.out.below hb0)
      replace I6 := hide (I6.out.below hb0)
      replace I7 := hide (I7.out.below hb0)
      replace I8 := hide (I8.out.below hb0)
      clear hb0
      generalize (w15.alloc (.cells #[.bool s8, .slice m8 n8 k8] 25)) = w16 at *
      obtain ⟨g8, hg⟩ : ∃ q, q = w15.heap.size := ⟨_, rfl⟩
      rw [← hg] at B8 ⊢
      clear hg
      refine wp_calm (fun w' => Below w16.heap.size w16 w') (fun _ => true) 84 #[false, false, false, false, false, false, false, false, false, false, false, false, false, false, false, false, false, false, false, false, false, false, false, false, false, false, false, false, false, false, false, false, false, false, false, false, false, false, false, false, false, false, false, false, false, false, false, false, false, false, false, false, false, false, false, false, false, false, false, false, false, false, false, false, false, false, false, false, false, false, false, false, false, false, false, false, false, false, false, false, false, false, false, false] (by kernel_rfl) rfl rfl ?_
      have HF := hide ((Below.refl w16.heap.size w16).drew)
      generalize w16.drew = w16d at *
      refine Calm.take (i := 0) (v := ?_) (a' := ?_) (l' := #[true, false, false, false, false, false, false, false, false, false, false, false, false, false, false, false, false, false, false, false, false, false, false, false, false, false, false, false, false, false, false, false, false, false, false, false, false, false, false, false, false, false, false, false, false, false, false, false, false, false, false, false, false, false, false, false, false, false, false, false, false, false, false, false, false, false, false, false, false, false, false, false, false, false, false, false, false, false, false, false, false, false, false, false]) (d := some 62) rfl (by kernel_rfl) (by kernel_rfl) (by kernel_rfl) (by kernel_rfl) (fun _ _ _ h => h) HF.out rfl ?_ rfl rfl ?_ ?_
      rotate_left
      · intro w' hF; clear hF; go_simp; try rfl
      rotate_left
      · simp only [Act.put]; exact rfl
      refine Calm.take (i := 1) (v := ?_) (a' := ?_) (l' := #[true, true, false, false, false, false, false, false, false, false, false, false, false, false, false, false, false, false, false, false, false, false, false, false, false, false, false, false, false, false, false, false, false, false, false, false, false, false, false, false, false, false, false, false, false, false, false, false, false, false, false, false, false, false, false, false, false, false, false, false, false, false, false, false, false, false, false, false, false, false, false, false, false, false, false, false, false, false, false, false, false, false, false, false]) (d := some 63) rfl (by kernel_rfl) (by kernel_rfl) (by kernel_rfl) (by kernel_rfl) (fun _ _ _ h => h) HF.out (by kernel_rfl) ?_ rfl rfl ?_ ?_
      rotate_left
      · intro w' hF; have f00 := (BZ.out.step hF).cell0; have f01 := (BZ.out.step hF).cell1; have f10 := (B1.out.step hF).cell0; have f11 := (B1.out.step hF).cell1; have f20 := (B2.out.step hF).cell0; have f21 := (B2.out.step hF).cell1; have f30 := (B3.out.step hF).cell0; have f31 := (B3.out.step hF).cell1; have f40 := (B4.out.step hF).cell0; have f41 := (B4.out.step hF).cell1; have f50 := (B5.out.step hF).cell0; have f51 := (B5.out.step hF).cell1; have f60 := (B6.out.step hF).cell0; have f61 := (B6.out.step hF).cell1; have f70 := (B7.out.step hF).cell0; have f71 := (B7.out.step hF).cell1; have f80 := (B8.out.step hF).cell0; have f81 := (B8.out.step hF).cell1; clear hF; go_simp; try rfl
      rotate_left
      · simp only [Act.put]; exact rfl
      refine Calm.one (i := 2) (l' := #[true, true, true, false, false, false, false, false, false, false, false, false, false, false, false, false, false, false, false, false, false, false, false, false, false, false, false, false, false, false, false, false, false, false, false, false, false, false, false, false, false, false, false, false, false, false, false, false, false, false, false, false, false, false, false, false, false, false, false, false, false, false, false, false, false, false, false, false, false, false, false, false, false, false, false, false, false, false, false, false, false, false, false, false]) (by kernel_rfl) rfl (by kernel_rfl) rfl fun K hK => ?_
      go_simp
      refine (isign_any _ 0 _ (int0 _)).mono ?_
      rintro e u2 ⟨rfl, hb⟩
      rw [show sgnI 0 = 0 from rfl]
      have HF' := hide (HF.out.trans ((hb).mono HF.out.size))
      refine hK _ _ (fun _ => HF'.out) ?_
      clear hK K HF hb
      have HF := hide HF'.out
      clear HF'
      refine Calm.take (i := 3) (v := ?_) (a' := ?_) (l' := #[true, true, true, true, false, false, false, false, false, false, false, false, false, false, false, false, false, false, false, false, false, false, false, false, false, false, false, false, false, false, false, false, false, false, false, false, false, false, false, false, false, false, false, false, false, false, false, false, false, false, false, false, false, false, false, false, false, false, false, false, false, false, false, false, false, false, false, false, false, false, false, false, false, false, false, false, false, false, false, false, false, false, false, false]) (d := some 65) rfl (by kernel_rfl) (by kernel_rfl) (by kernel_rfl) (by kernel_rfl) (fun _ _ _ h => h) HF.out (by kernel_rfl) ?_ rfl rfl ?_ ?_
      rotate_left
      · intro w' hF; clear hF; go_simp; try rfl
      rotate_left
      · simp only [Act.put]; exact rfl
      refine Calm.take (i := 4) (v := ?_) (a' := ?_) (l' := #[true, true, true, true, true, false, false, false, false, false, false, false, false, false, false, false, false, false, false, false, false, false, false, false, false, false, false, false, false, false, false, false, false, false, false, false, false, false, false, false, false, false, false, false, false, false, false, false, false, false, false, false, false, false, false, false, false, false, false, false, false, false, false, false, false, false, false, false, false, false, false, false, false, false, false, false, false, false, false, false, false, false, false, false]) (d := some 66) rfl (by kernel_rfl) (by kernel_rfl) (by kernel_rfl) (by kernel_rfl) (fun _ _ _ h => h) HF.out rfl ?_ rfl rfl ?_ ?_
      rotate_left
      · intro w' hF; clear hF; go_simp; try rfl
      rotate_left
      · simp only [Act.put]; exact rfl
      refine Calm.take (i := 5) (v := ?_) (a' := ?_) (l' := #[true, true, true, true, true, true, false, false, false, false, false, false, false, false, false, false, false, false, false, false, false, false, false, false, false, false, false, false, false, false, false, false, false, false, false, false, false, false, false, false, false, false, false, false, false, false, false, false, false, false, false, false, false, false, false, false, false, false, false, false, false, false, false, false, false, false, false, false, false, false, false, false, false, false, false, false, false, false, false, false, false, false, false, false]) (d := some 67) rfl (by kernel_rfl) (by kernel_rfl) (by kernel_rfl) (by kernel_rfl) (fun _ _ _ h => h) HF.out rfl ?_ rfl rfl ?_ ?_
      rotate_left
      · intro w' hF; clear hF; go_simp; try rfl
      rotate_left
      · simp only [Act.put]; exact rfl
      refine Calm.take (i := 6) (v := ?_) (a' := ?_) (l' := #[true, true, true, true, true, true, true, false, false, false, false, false, false, false, false, false, false, false, false, false, false, false, false, false, false, false, false, false, false, false, false, false, false, false, false, false, false, false, false, false, false, false, false, false, false, false, false, false, false, false, false, false, false, false, false, false, false, false, false, false, false, false, false, false, false, false, false, false, false, false, false, false, false, false, false, false, false, false, false, false, false, false, false, false]) (d := some 68) rfl (by kernel_rfl) (by kernel_rfl) (by kernel_rfl) (by kernel_rfl) (fun _ _ _ h => h) HF.out (by kernel_rfl) ?_ rfl rfl ?_ ?_
      rotate_left
      · intro w' hF; clear hF; go_simp; try rfl
      rotate_left
      · simp only [Act.put]; exact rfl
      refine Calm.take (i := 7) (v := ?_) (a' := ?_) (l' := #[true, true, true, true, true, true, true, true, false, false, false, false, false, false, false, false, false, false, false, false, false, false, false, false, false, false, false, false, false, false, false, false, false, false, false, false, false, false, false, false, false, false, false, false, false, false, false, false, false, false, false, false, false, false, false, false, false, false, false, false, false, false, false, false, false, false, false, false, false, false, false, false, false, false, false, false, false, false, false, false, false, false, false, false]) (d := some 69) rfl (by kernel_rfl) (by kernel_rfl) (by kernel_rfl) (by kernel_rfl) (fun _ _ _ h => h) HF.out (by kernel_rfl) ?_ rfl rfl ?_ ?_
      rotate_left
      · intro w' hF; clear hF; go_simp; try rfl
      rotate_left
      · simp only [Act.put]; exact rfl
      refine Calm.take (i := 8) (v := ?_) (a' := ?_) (l' := #[true, true, true, true, true, true, true, true, true, false, false, false, false, false, false, false, false, false, false, false, false, false, false, false, false, false, false, false, false, false, false, false, false, false, false, false, false, false, false, false, false, false, false, false, false, false, false, false, false, false, false, false, false, false, false, false, false, false, false, false, false, false, false, false, false, false, false, false, false, false, false, false, false, false, false, false, false, false, false, false, false, false, false, false]) (d := some 70) rfl (by kernel_rfl) (by kernel_rfl) (by kernel_rfl) (by kernel_rfl) (fun _ _ _ h => h) HF.out (by kernel_rfl) ?_ rfl rfl ?_ ?_
      rotate_left
      · intro w' hF; clear hF; go_simp; try rfl
      rotate_left
      · simp only [Act.put]; exact rfl
      refine Calm.take (i := 9) (v := ?_) (a' := ?_) (l' := #[true, true, true, true, true, true, true, true, true, true, false, false, false, false, false, false, false, false, false, false, false, false, false, false, false, false, false, false, false, false, false, false, false, false, false, false, false, false, false, false, false, false, false, false, false, false, false, false, false, false, false, false, false, false, false, false, false, false, false, false, false, false, false, false, false, false, false, false, false, false, false, false, false, false, false, false, false, false, false, false, false, false, false, false]) (d := some 71) rfl (by kernel_rfl) (by kernel_rfl) (by kernel_rfl) (by kernel_rfl) (fun _ _ _ h => h) HF.out rfl ?_ rfl rfl ?_ ?_
      rotate_left
      · intro w' hF; clear hF; go_simp; try rfl
      rotate_left
      · simp only [Act.put]; exact rfl
      refine Calm.take (i := 10) (v := ?_) (a' := ?_) (l' := #[true, true, true, true, true, true, true, true, true, true, true, false, false, false, false, false, false, false, false, false, false, false, false, false, false, false, false, false, false, false, false, false, false, false, false, false, false, false, false, false, false, false, false, false, false, false, false, false, false, false, false, false, false, false, false, false, false, false, false, false, false, false, false, false, false, false, false, false, false, false, false, false, false, false, false, false, false, false, false, false, false, false, false, false]) (d := some 72) rfl (by kernel_rfl) (by kernel_rfl) (by kernel_rfl) (by kernel_rfl) (fun _ _ _ h => h) HF.out rfl ?_ rfl rfl ?_ ?_
      rotate_left
      · intro w' hF; clear hF; go_simp; try rfl
      rotate_left
      · simp only [Act.put]; exact rfl
      refine Calm.take (i := 11) (v := ?_) (a' := ?_) (l' := #[true, true, true, true, true, true, true, true, true, true, true, true, false, false, false, false, false, false, false, false, false, false, false, false, false, false, false, false, false, false, false, false, false, false, false, false, false, false, false, false, false, false, false, false, false, false, false, false, false, false, false, false, false, false, false, false, false, false, false, false, false, false, false, false, false, false, false, false, false, false, false, false, false, false, false, false, false, false, false, false, false, false, false, false]) (d := some 73) rfl (by kernel_rfl) (by kernel_rfl) (by kernel_rfl) (by kernel_rfl) (fun _ _ _ h => h) HF.out (by kernel_rfl) ?_ rfl rfl ?_ ?_
      rotate_left
      · intro w' hF; have f00 := (BZ.out.step hF).cell0; have f01 := (BZ.out.step hF).cell1; have f10 := (B1.out.step hF).cell0; have f11 := (B1.out.step hF).cell1; have f20 := (B2.out.step hF).cell0; have f21 := (B2.out.step hF).cell1; have f30 := (B3.out.step hF).cell0; have f31 := (B3.out.step hF).cell1; have f40 := (B4.out.step hF).cell0; have f41 := (B4.out.step hF).cell1; have f50 := (B5.out.step hF).cell0; have f51 := (B5.out.step hF).cell1; have f60 := (B6.out.step hF).cell0; have f61 := (B6.out.step hF).cell1; have f70 := (B7.out.step hF).cell0; have f71 := (B7.out.step hF).cell1; have f80 := (B8.out.step hF).cell0; have f81 := (B8.out.step hF).cell1; clear hF; go_simp; try rfl
      rotate_left
      · simp only [Act.put]; exact rfl
      refine Calm.one (i := 12) (l' := #[true, true, true, true, true, true, true, true, true, true, true, true, true, false, false, false, false, false, false, false, false, false, false, false, false, false, false, false, false, false, false, false, false, false, false, false, false, false, false, false, false, false, false, false, false, false, false, false, false, false, false, false, false, false, false, false, false, false, false, false, false, false, false, false, false, false, false, false, false, false, false, false, false, false, false, false, false, false, false, false, false, false, false, false]) (by kernel_rfl) rfl (by kernel_rfl) rfl fun K hK => ?_
      go_simp
      refine (itext_any _ 0 _ (int0 _) (by decide)).mono ?_
      rintro e u12 ⟨rfl, hb⟩
      rw [itxt_none]
      have HF' := hide (HF.out.trans ((hb).mono HF.out.size))
      refine hK _ _ (fun _ => HF'.out) ?_
      clear hK K HF hb
      have HF := hide HF'.out
      clear HF'
      refine Calm.take (i := 13) (v := ?_) (a' := ?_) (l' := #[true, true, true, true, true, true, true, true, true, true, true, true, true, true, false, false, false, false, false, false, false, false, false, false, false, false, false, false, false, false, false, false, false, false, false, false, false, false, false, false, false, false, false, false, false, false, false, false, false, false, false, false, false, false, false, false, false, false, false, false, false, false, false, false, false, false, false, false, false, false, false, false, false, false, false, false, false, false, false, false, false, false, false, false]) (d := some 75) rfl (by kernel_rfl) (by kernel_rfl) (by kernel_rfl) (by kernel_rfl) (fun _ _ _ h => h) HF.out (by kernel_rfl) ?_ rfl rfl ?_ ?_
      rotate_left
      · intro w' hF; clear hF; go_simp; try rfl
      rotate_left
      · simp only [Act.put]; exact rfl
      refine Calm.take (i := 14) (v := ?_) (a' := ?_) (l' := #[true, true, true, true, true, true, true, true, true, true, true, true, true, true, true, false, false, false, false, false, false, false, false, false, false, false, false, false, false, false, false, false, false, false, false, false, false, false, false, false, false, false, false, false, false, false, false, false, false, false, false, false, false, false, false, false, false, false, false, false, false, false, false, false, false, false, false, false, false, false, false, false, false, false, false, false, false, false, false, false, false, false, false, false]) (d := some 76) rfl (by kernel_rfl) (by kernel_rfl) (by kernel_rfl) (by kernel_rfl) (fun _ _ _ h => h) HF.out rfl ?_ rfl rfl ?_ ?_
      rotate_left
      · intro w' hF; clear hF; go_simp; try rfl
      rotate_left
      · simp only [Act.put]; exact rfl
      refine Calm.take (i := 15) (v := ?_) (a' := ?_) (l' := #[true, true, true, true, true, true, true, true, true, true, true, true, true, true, true, true, false, false, false, false, false, false, false, false, false, false, false, false, false, false, false, false, false, false, false, false, false, false, false, false, false, false, false, false, false, false, false, false, false, false, false, false, false, false, false, false, false, false, false, false, false, false, false, false, false, false, false, false, false, false, false, false, false, false, false, false, false, false, false, false, false, false, false, false]) (d := some 77) rfl (by kernel_rfl) (by kernel_rfl) (by kernel_rfl) (by kernel_rfl) (fun _ _ _ h => h) HF.out rfl ?_ rfl rfl ?_ ?_
      rotate_left
      · intro w' hF; clear hF; go_simp; try rfl
      rotate_left
      · simp only [Act.put]; exact rfl
      refine Calm.take (i := 16) (v := ?_) (a' := ?_) (l' := #[true, true, true, true, true, true, true, true, true, true, true, true, true, true, true, true, true, false, false, false, false, false, false, false, false, false, false, false, false, false, false, false, false, false, false, false, false, false, false, false, false, false, false, false, false, false, false, false, false, false, false, false, false, false, false, false, false, false, false, false, false, false, false, false, false, false, false, false, false, false, false, false, false, false, false, false, false, false, false, false, false, false, false, false]) (d := some 78) rfl (by kernel_rfl) (by kernel_rfl) (by kernel_rfl) (by kernel_rfl) (fun _ _ _ h => h) HF.out (by kernel_rfl) ?_ rfl rfl ?_ ?_
      rotate_left
      · intro w' hF; have f00 := (BZ.out.step hF).cell0; have f01 := (BZ.out.step hF).cell1; have f10 := (B1.out.step hF).cell0; have f11 := (B1.out.step hF).cell1; have f20 := (B2.out.step hF).cell0; have f21 := (B2.out.step hF).cell1; have f30 := (B3.out.step hF).cell0; have f31 := (B3.out.step hF).cell1; have f40 := (B4.out.step hF).cell0; have f41 := (B4.out.step hF).cell1; have f50 := (B5.out.step hF).cell0; have f51 := (B5.out.step hF).cell1; have f60 := (B6.out.step hF).cell0; have f61 := (B6.out.step hF).cell1; have f70 := (B7.out.step hF).cell0; have f71 := (B7.out.step hF).cell1; have f80 := (B8.out.step hF).cell0; have f81 := (B8.out.step hF).cell1; clear hF; go_simp; try rfl
      rotate_left
      · simp only [Act.put]; exact rfl
      refine Calm.one (i := 17) (l' := #[true, true, true, true, true, true, true, true, true, true, true, true, true, true, true, true, true, true, false, false, false, false, false, false, false, false, false, false, false, false, false, false, false, false, false, false, false, false, false, false, false, false, false, false, false, false, false, false, false, false, false, false, false, false, false, false, false, false, false, false, false, false, false, false, false, false, false, false, false, false, false, false, false, false, false, false, false, false, false, false, false, false, false, false]) (by kernel_rfl) rfl (by kernel_rfl) rfl fun K hK => ?_
      go_simp
      refine (ibits_any _ 0 _ (int0 _) (by decide)).mono ?_
      rintro e u17 ⟨L, rfl, _, hle, hb⟩
      obtain rfl : L = 0 := len_none hle
      clear hle
      have HF' := hide (HF.out.trans ((hb).mono HF.out.size))
      refine hK _ _ (fun _ => HF'.out) ?_
      clear hK K HF hb
      have HF := hide HF'.out
      clear HF'
      refine Calm.take (i := 18) (v := ?_) (a' := ?_) (l' := #[true, true, true, true, true, true, true, true, true, true, true, true, true, true, true, true, true, true, true, false, false, false, false, false, false, false, false, false, false, false, false, false, false, false, false, false, false, false, false, false, false, false, false, false, false, false, false, false, false, false, false, false, false, false, false, false, false, false, false, false, false, false, false, false, false, false, false, false, false, false, false, false, false, false, false, false, false, false, false, false, false, false, false, false]) (d := some 80) rfl (by kernel_rfl) (by kernel_rfl) (by kernel_rfl) (by kernel_rfl) (fun _ _ _ h => h) HF.out (by kernel_rfl) ?_ rfl rfl ?_ ?_
      rotate_left
      · intro w' hF; clear hF; go_simp; try rfl
      rotate_left
      · simp only [Act.put]; exact rfl
      refine Calm.take (i := 19) (v := ?_) (a' := ?_) (l' := #[true, true, true, true, true, true, true, true, true, true, true, true, true, true, true, true, true, true, true, true, false, false, false, false, false, false, false, false, false, false, false, false, false, false, false, false, false, false, false, false, false, false, false, false, false, false, false, false, false, false, false, false, false, false, false, false, false, false, false, false, false, false, false, false, false, false, false, false, false, false, false, false, false, false, false, false, false, false, false, false, false, false, false, false]) (d := some 81) rfl (by kernel_rfl) (by kernel_rfl) (by kernel_rfl) (by kernel_rfl) (fun _ _ _ h => h) HF.out rfl ?_ rfl rfl ?_ ?_
      rotate_left
      · intro w' hF; clear hF; go_simp; try rfl
      rotate_left
      · simp only [Act.put]; exact rfl
      refine Calm.take (i := 20) (v := ?_) (a' := ?_) (l' := #[true, true, true, true, true, true, true, true, true, true, true, true, true, true, true, true, true, true, true, true, true, false, false, false, false, false, false, false, false, false, false, false, false, false, false, false, false, false, false, false, false, false, false, false, false, false, false, false, false, false, false, false, false, false, false, false, false, false, false, false, false, false, false, false, false, false, false, false, false, false, false, false, false, false, false, false, false, false, false, false, false, false, false, false]) (d := some 82) rfl (by kernel_rfl) (by kernel_rfl) (by kernel_rfl) (by kernel_rfl) (fun _ _ _ h => h) HF.out rfl ?_ rfl rfl ?_ ?_
      rotate_left
      · intro w' hF; clear hF; go_simp; try rfl
      rotate_left
      · simp only [Act.put]; exact rfl
      refine Calm.take (i := 21) (v := ?_) (a' := ?_) (l' := #[true, true, true, true, true, true, true, true, true, true, true, true, true, true, true, true, true, true, true, true, true, true, false, false, false, false, false, false, false, false, false, false, false, false, false, false, false, false, false, false, false, false, false, false, false, false, false, false, false, false, false, false, false, false, false, false, false, false, false, false, false, false, false, false, false, false, false, false, false, false, false, false, false, false, false, false, false, false, false, false, false, false, false, false]) (d := some 83) rfl (by kernel_rfl) (by kernel_rfl) (by kernel_rfl) (by kernel_rfl) (fun _ _ _ h => h) HF.out (by kernel_rfl) ?_ rfl rfl ?_ ?_
      rotate_left
      · intro w' hF; have f00 := (BZ.out.step hF).cell0; have f01 := (BZ.out.step hF).cell1; have f10 := (B1.out.step hF).cell0; have f11 := (B1.out.step hF).cell1; have f20 := (B2.out.step hF).cell0; have f21 := (B2.out.step hF).cell1; have f30 := (B3.out.step hF).cell0; have f31 := (B3.out.step hF).cell1; have f40 := (B4.out.step hF).cell0; have f41 := (B4.out.step hF).cell1; have f50 := (B5.out.step hF).cell0; have f51 := (B5.out.step hF).cell1; have f60 := (B6.out.step hF).cell0; have f61 := (B6.out.step hF).cell1; have f70 := (B7.out.step hF).cell0; have f71 := (B7.out.step hF).cell1; have f80 := (B8.out.step hF).cell0; have f81 := (B8.out.step hF).cell1; clear hF; go_simp; try rfl
      rotate_left
      · simp only [Act.put]; exact rfl
      refine Calm.one (i := 22) (l' := #[true, true, true, true, true, true, true, true, true, true, true, true, true, true, true, true, true, true, true, true, true, true, true, false, false, false, false, false, false, false, false, false, false, false, false, false, false, false, false, false, false, false, false, false, false, false, false, false, false, false, false, false, false, false, false, false, false, false, false, false, false, false, false, false, false, false, false, false, false, false, false, false, false, false, false, false, false, false, false, false, false, false, false, false]) (by kernel_rfl) rfl (by kernel_rfl) rfl fun K hK => ?_
      go_simp
      refine (twos_noneI _ _ (int0 _)).mono ?_
      rintro e u22 ⟨rfl, hb⟩
      have HF' := hide (HF.out.trans ((hb).mono HF.out.size))
      refine hK _ _ (fun _ => HF'.out) ?_
      clear hK K HF hb
      have HF := hide HF'.out
      clear HF'
      refine Calm.take (i := 23) (v := ?_) (a' := ?_) (l' := #[true, true, true, true, true, true, true, true, true, true, true, true, true, true, true, true, true, true, true, true, true, true, true, true, false, false, false, false, false, false, false, false, false, false, false, false, false, false, false, false, false, false, false, false, false, false, false, false, false, false, false, false, false, false, false, false, false, false, false, false, false, false, false, false, false, false, false, false, false, false, false, false, false, false, false, false, false, false, false, false, false, false, false, false]) (d := some 85) rfl (by kernel_rfl) (by kernel_rfl) (by kernel_rfl) (by kernel_rfl) (fun _ _ _ h => h) HF.out (by kernel_rfl) ?_ rfl rfl ?_ ?_
      rotate_left
      · intro w' hF; clear hF; go_simp; try rfl
      rotate_left
      · simp only [Act.put]; exact rfl
      refine Calm.take (i := 24) (v := ?_) (a' := ?_) (l' := #[true, true, true, true, true, true, true, true, true, true, true, true, true, true, true, true, true, true, true, true, true, true, true, true, true, false, false, false, false, false, false, false, false, false, false, false, false, false, false, false, false, false, false, false, false, false, false, false, false, false, false, false, false, false, false, false, false, false, false, false, false, false, false, false, false, false, false, false, false, false, false, false, false, false, false, false, false, false, false, false, false, false, false, false]) (d := some 86) rfl (by kernel_rfl) (by kernel_rfl) (by kernel_rfl) (by kernel_rfl) (fun _ _ _ h => h) HF.out rfl ?_ rfl rfl ?_ ?_
      rotate_left
      · intro w' hF; clear hF; go_simp; try rfl
      rotate_left
      · simp only [Act.put]; exact rfl
      refine Calm.take (i := 25) (v := ?_) (a' := ?_) (l' := #[true, true, true, true, true, true, true, true, true, true, true, true, true, true, true, true, true, true, true, true, true, true, true, true, true, true, false, false, false, false, false, false, false, false, false, false, false, false, false, false, false, false, false, false, false, false, false, false, false, false, false, false, false, false, false, false, false, false, false, false, false, false, false, false, false, false, false, false, false, false, false, false, false, false, false, false, false, false, false, false, false, false, false, false]) (d := some 87) rfl (by kernel_rfl) (by kernel_rfl) (by kernel_rfl) (by kernel_rfl) (fun _ _ _ h => h) HF.out rfl ?_ rfl rfl ?_ ?_
      rotate_left
      · intro w' hF; clear hF; go_simp; try rfl
      rotate_left
      · simp only [Act.put]; exact rfl
      refine Calm.take (i := 26) (v := ?_) (a' := ?_) (l' := #[true, true, true, true, true, true, true, true, true, true, true, true, true, true, true, true, true, true, true, true, true, true, true, true, true, true, true, false, false, false, false, false, false, false, false, false, false, false, false, false, false, false, false, false, false, false, false, false, false, false, false, false, false, false, false, false, false, false, false, false, false, false, false, false, false, false, false, false, false, false, false, false, false, false, false, false, false, false, false, false, false, false, false, false]) (d := some 88) rfl (by kernel_rfl) (by kernel_rfl) (by kernel_rfl) (by kernel_rfl) (fun _ _ _ h => h) HF.out (by kernel_rfl) ?_ rfl rfl ?_ ?_
      rotate_left
      · intro w' hF; have f00 := (BZ.out.step hF).cell0; have f01 := (BZ.out.step hF).cell1; have f10 := (B1.out.step hF).cell0; have f11 := (B1.out.step hF).cell1; have f20 := (B2.out.step hF).cell0; have f21 := (B2.out.step hF).cell1; have f30 := (B3.out.step hF).cell0; have f31 := (B3.out.step hF).cell1; have f40 := (B4.out.step hF).cell0; have f41 := (B4.out.step hF).cell1; have f50 := (B5.out.step hF).cell0; have f51 := (B5.out.step hF).cell1; have f60 := (B6.out.step hF).cell0; have f61 := (B6.out.step hF).cell1; have f70 := (B7.out.step hF).cell0; have f71 := (B7.out.step hF).cell1; have f80 := (B8.out.step hF).cell0; have f81 := (B8.out.step hF).cell1; clear hF; go_simp; try rfl
      rotate_left
      · simp only [Act.put]; exact rfl
      refine Calm.one (i := 27) (l' := #[true, true, true, true, true, true, true, true, true, true, true, true, true, true, true, true, true, true, true, true, true, true, true, true, true, true, true, true, false, false, false, false, false, false, false, false, false, false, false, false, false, false, false, false, false, false, false, false, false, false, false, false, false, false, false, false, false, false, false, false, false, false, false, false, false, false, false, false, false, false, false, false, false, false, false, false, false, false, false, false, false, false, false, false]) (by kernel_rfl) rfl (by kernel_rfl) rfl fun K hK => ?_
      go_simp
      refine (iof_any 0 _ (by decide) (by decide)).mono ?_
      rintro e u27 ⟨v, rfl, i, hb⟩
      have HF' := hide (HF.out.trans ((hb).mono HF.out.size))
      have T1 := hide (i)
      refine hK _ _ (fun _ => HF'.out) ?_
      clear hK K HF hb i
      have HF := hide HF'.out
      clear HF'
      refine Calm.one (i := 28) (l' := #[true, true, true, true, true, true, true, true, true, true, true, true, true, true, true, true, true, true, true, true, true, true, true, true, true, true, true, true, true, false, false, false, false, false, false, false, false, false, false, false, false, false, false, false, false, false, false, false, false, false, false, false, false, false, false, false, false, false, false, false, false, false, false, false, false, false, false, false, false, false, false, false, false, false, false, false, false, false, false, false, false, false, false, false]) (by kernel_rfl) rfl (by kernel_rfl) rfl fun K hK => ?_
      go_simp
      refine (icmp_any _ _ 0 0 _ (int0 _) T1.out).mono ?_
      rintro e u28 ⟨rfl, hb⟩
      rw [show cmpZ 0 0 = 0 from by decide]
      clear T1
      have HF' := hide (HF.out.trans ((hb).mono HF.out.size))
      refine hK _ _ (fun _ => HF'.out) ?_
      clear hK K HF hb
      have HF := hide HF'.out
      clear HF'
      refine Calm.take (i := 29) (v := ?_) (a' := ?_) (l' := #[true, true, true, true, true, true, true, true, true, true, true, true, true, true, true, true, true, true, true, true, true, true, true, true, true, true, true, true, true, true, false, false, false, false, false, false, false, false, false, false, false, false, false, false, false, false, false, false, false, false, false, false, false, false, false, false, false, false, false, false, false, false, false, false, false, false, false, false, false, false, false, false, false, false, false, false, false, false, false, false, false, false, false, false]) (d := some 91) rfl (by kernel_rfl) (by kernel_rfl) (by kernel_rfl) (by kernel_rfl) (fun _ _ _ h => h) HF.out (by kernel_rfl) ?_ rfl rfl ?_ ?_
      rotate_left
      · intro w' hF; clear hF; go_simp; try rfl
      rotate_left
      · simp only [Act.put]; exact rfl
      refine Calm.take (i := 30) (v := ?_) (a' := ?_) (l' := #[true, true, true, true, true, true, true, true, true, true, true, true, true, true, true, true, true, true, true, true, true, true, true, true, true, true, true, true, true, true, true, false, false, false, false, false, false, false, false, false, false, false, false, false, false, false, false, false, false, false, false, false, false, false, false, false, false, false, false, false, false, false, false, false, false, false, false, false, false, false, false, false, false, false, false, false, false, false, false, false, false, false, false, false]) (d := some 92) rfl (by kernel_rfl) (by kernel_rfl) (by kernel_rfl) (by kernel_rfl) (fun _ _ _ h => h) HF.out rfl ?_ rfl rfl ?_ ?_
      rotate_left
      · intro w' hF; clear hF; go_simp; try rfl
      rotate_left
      · simp only [Act.put]; exact rfl
      refine Calm.take (i := 31) (v := ?_) (a' := ?_) (l' := #[true, true, true, true, true, true, true, true, true, true, true, true, true, true, true, true, true, true, true, true, true, true, true, true, true, true, true, true, true, true, true, true, false, false, false, false, false, false, false, false, false, false, false, false, false, false, false, false, false, false, false, false, false, false, false, false, false, false, false, false, false, false, false, false, false, false, false, false, false, false, false, false, false, false, false, false, false, false, false, false, false, false, false, false]) (d := some 93) rfl (by kernel_rfl) (by kernel_rfl) (by kernel_rfl) (by kernel_rfl) (fun _ _ _ h => h) HF.out rfl ?_ rfl rfl ?_ ?_
      rotate_left
      · intro w' hF; clear hF; go_simp; try rfl
      rotate_left
      · simp only [Act.put]; exact rfl
      refine Calm.take (i := 32) (v := ?_) (a' := ?_) (l' := #[true, true, true, true, true, true, true, true, true, true, true, true, true, true, true, true, true, true, true, true, true, true, true, true, true, true, true, true, true, true, true, true, true, false, false, false, false, false, false, false, false, false, false, false, false, false, false, false, false, false, false, false, false, false, false, false, false, false, false, false, false, false, false, false, false, false, false, false, false, false, false, false, false, false, false, false, false, false, false, false, false, false, false, false]) (d := some 94) rfl (by kernel_rfl) (by kernel_rfl) (by kernel_rfl) (by kernel_rfl) (fun _ _ _ h => h) HF.out (by kernel_rfl) ?_ rfl rfl ?_ ?_
      rotate_left
      · intro w' hF; have f00 := (BZ.out.step hF).cell0; have f01 := (BZ.out.step hF).cell1; have f10 := (B1.out.step hF).cell0; have f11 := (B1.out.step hF).cell1; have f20 := (B2.out.step hF).cell0; have f21 := (B2.out.step hF).cell1; have f30 := (B3.out.step hF).cell0; have f31 := (B3.out.step hF).cell1; have f40 := (B4.out.step hF).cell0; have f41 := (B4.out.step hF).cell1; have f50 := (B5.out.step hF).cell0; have f51 := (B5.out.step hF).cell1; have f60 := (B6.out.step hF).cell0; have f61 := (B6.out.step hF).cell1; have f70 := (B7.out.step hF).cell0; have f71 := (B7.out.step hF).cell1; have f80 := (B8.out.step hF).cell0; have f81 := (B8.out.step hF).cell1; clear hF; go_simp; try rfl
      rotate_left
      · simp only [Act.put]; exact rfl
      refine Calm.one (i := 33) (l' := #[true, true, true, true, true, true, true, true, true, true, true, true, true, true, true, true, true, true, true, true, true, true, true, true, true, true, true, true, true, true, true, true, true, true, false, false, false, false, false, false, false, false, false, false, false, false, false, false, false, false, false, false, false, false, false, false, false, false, false, false, false, false, false, false, false, false, false, false, false, false, false, false, false, false, false, false, false, false, false, false, false, false, false, false]) (by kernel_rfl) rfl (by kernel_rfl) rfl fun K hK => ?_
      go_simp
      refine (zero_none _ _ (I1.out.below HF.out)).mono ?_
      rintro e u33 ⟨rfl, hb⟩
      have HF' := hide (HF.out.trans ((hb).mono HF.out.size))
      refine hK _ _ (fun _ => HF'.out) ?_
      clear hK K HF hb
      have HF := hide HF'.out
      clear HF'
      refine Calm.take (i := 34) (v := ?_) (a' := ?_) (l' := #[true, true, true, true, true, true, true, true, true, true, true, true, true, true, true, true, true, true, true, true, true, true, true, true, true, true, true, true, true, true, true, true, true, true, true, false, false, false, false, false, false, false, false, false, false, false, false, false, false, false, false, false, false, false, false, false, false, false, false, false, false, false, false, false, false, false, false, false, false, false, false, false, false, false, false, false, false, false, false, false, false, false, false, false]) (d := some 96) rfl (by kernel_rfl) (by kernel_rfl) (by kernel_rfl) (by kernel_rfl) (fun _ _ _ h => h) HF.out rfl ?_ rfl rfl ?_ ?_
      rotate_left
      · intro w' hF; clear hF; go_simp; try rfl
      rotate_left
      · simp only [Act.put]; exact rfl
      refine Calm.take (i := 35) (v := ?_) (a' := ?_) (l' := #[true, true, true, true, true, true, true, true, true, true, true, true, true, true, true, true, true, true, true, true, true, true, true, true, true, true, true, true, true, true, true, true, true, true, true, true, false, false, false, false, false, false, false, false, false, false, false, false, false, false, false, false, false, false, false, false, false, false, false, false, false, false, false, false, false, false, false, false, false, false, false, false, false, false, false, false, false, false, false, false, false, false, false, false]) (d := some 97) rfl (by kernel_rfl) (by kernel_rfl) (by kernel_rfl) (by kernel_rfl) (fun _ _ _ h => h) HF.out rfl ?_ rfl rfl ?_ ?_
      rotate_left
      · intro w' hF; clear hF; go_simp; try rfl
      rotate_left
      · simp only [Act.put]; exact rfl
      refine Calm.take (i := 36) (v := ?_) (a' := ?_) (l' := #[true, true, true, true, true, true, true, true, true, true, true, true, true, true, true, true, true, true, true, true, true, true, true, true, true, true, true, true, true, true, true, true, true, true, true, true, true, false, false, false, false, false, false, false, false, false, false, false, false, false, false, false, false, false, false, false, false, false, false, false, false, false, false, false, false, false, false, false, false, false, false, false, false, false, false, false, false, false, false, false, false, false, false, false]) (d := some 98) rfl (by kernel_rfl) (by kernel_rfl) (by kernel_rfl) (by kernel_rfl) (fun _ _ _ h => h) HF.out (by kernel_rfl) ?_ rfl rfl ?_ ?_
      rotate_left
      · intro w' hF; have f00 := (BZ.out.step hF).cell0; have f01 := (BZ.out.step hF).cell1; have f10 := (B1.out.step hF).cell0; have f11 := (B1.out.step hF).cell1; have f20 := (B2.out.step hF).cell0; have f21 := (B2.out.step hF).cell1; have f30 := (B3.out.step hF).cell0; have f31 := (B3.out.step hF).cell1; have f40 := (B4.out.step hF).cell0; have f41 := (B4.out.step hF).cell1; have f50 := (B5.out.step hF).cell0; have f51 := (B5.out.step hF).cell1; have f60 := (B6.out.step hF).cell0; have f61 := (B6.out.step hF).cell1; have f70 := (B7.out.step hF).cell0; have f71 := (B7.out.step hF).cell1; have f80 := (B8.out.step hF).cell0; have f81 := (B8.out.step hF).cell1; clear hF; go_simp; try rfl
      rotate_left
      · simp only [Act.put]; exact rfl
      refine Calm.one (i := 37) (l' := #[true, true, true, true, true, true, true, true, true, true, true, true, true, true, true, true, true, true, true, true, true, true, true, true, true, true, true, true, true, true, true, true, true, true, true, true, true, true, false, false, false, false, false, false, false, false, false, false, false, false, false, false, false, false, false, false, false, false, false, false, false, false, false, false, false, false, false, false, false, false, false, false, false, false, false, false, false, false, false, false, false, false, false, false]) (by kernel_rfl) rfl (by kernel_rfl) rfl fun K hK => ?_
      go_simp
      refine (zero_none _ _ (I2.out.below HF.out)).mono ?_
      rintro e u37 ⟨rfl, hb⟩
      have HF' := hide (HF.out.trans ((hb).mono HF.out.size))
      refine hK _ _ (fun _ => HF'.out) ?_
      clear hK K HF hb
      have HF := hide HF'.out
      clear HF'
      refine Calm.take (i := 38) (v := ?_) (a' := ?_) (l' := #[true, true, true, true, true, true, true, true, true, true, true, true, true, true, true, true, true, true, true, true, true, true, true, true, true, true, true, true, true, true, true, true, true, true, true, true, true, true, true, false, false, false, false, false, false, false, false, false, false, false, false, false, false, false, false, false, false, false, false, false, false, false, false, false, false, false, false, false, false, false, false, false, false, false, false, false, false, false, false, false, false, false, false, false]) (d := some 100) rfl (by kernel_rfl) (by kernel_rfl) (by kernel_rfl) (by kernel_rfl) (fun _ _ _ h => h) HF.out rfl ?_ rfl rfl ?_ ?_
      rotate_left
      · intro w' hF; clear hF; go_simp; try rfl
      rotate_left
      · simp only [Act.put]; exact rfl
      refine Calm.take (i := 39) (v := ?_) (a' := ?_) (l' := #[true, true, true, true, true, true, true, true, true, true, true, true, true, true, true, true, true, true, true, true, true, true, true, true, true, true, true, true, true, true, true, true, true, true, true, true, true, true, true, true, false, false, false, false, false, false, false, false, false, false, false, false, false, false, false, false, false, false, false, false, false, false, false, false, false, false, false, false, false, false, false, false, false, false, false, false, false, false, false, false, false, false, false, false]) (d := some 101) rfl (by kernel_rfl) (by kernel_rfl) (by kernel_rfl) (by kernel_rfl) (fun _ _ _ h => h) HF.out rfl ?_ rfl rfl ?_ ?_
      rotate_left
      · intro w' hF; clear hF; go_simp; try rfl
      rotate_left
      · simp only [Act.put]; exact rfl
      refine Calm.take (i := 40) (v := ?_) (a' := ?_) (l' := #[true, true, true, true, true, true, true, true, true, true, true, true, true, true, true, true, true, true, true, true, true, true, true, true, true, true, true, true, true, true, true, true, true, true, true, true, true, true, true, true, true, false, false, false, false, false, false, false, false, false, false, false, false, false, false, false, false, false, false, false, false, false, false, false, false, false, false, false, false, false, false, false, false, false, false, false, false, false, false, false, false, false, false, false]) (d := some 102) rfl (by kernel_rfl) (by kernel_rfl) (by kernel_rfl) (by kernel_rfl) (fun _ _ _ h => h) HF.out (by kernel_rfl) ?_ rfl rfl ?_ ?_
      rotate_left
      · intro w' hF; have f00 := (BZ.out.step hF).cell0; have f01 := (BZ.out.step hF).cell1; have f10 := (B1.out.step hF).cell0; have f11 := (B1.out.step hF).cell1; have f20 := (B2.out.step hF).cell0; have f21 := (B2.out.step hF).cell1; have f30 := (B3.out.step hF).cell0; have f31 := (B3.out.step hF).cell1; have f40 := (B4.out.step hF).cell0; have f41 := (B4.out.step hF).cell1; have f50 := (B5.out.step hF).cell0; have f51 := (B5.out.step hF).cell1; have f60 := (B6.out.step hF).cell0; have f61 := (B6.out.step hF).cell1; have f70 := (B7.out.step hF).cell0; have f71 := (B7.out.step hF).cell1; have f80 := (B8.out.step hF).cell0; have f81 := (B8.out.step hF).cell1; clear hF; go_simp; try rfl
      rotate_left
      · simp only [Act.put]; exact rfl
      refine Calm.one (i := 41) (l' := #[true, true, true, true, true, true, true, true, true, true, true, true, true, true, true, true, true, true, true, true, true, true, true, true, true, true, true, true, true, true, true, true, true, true, true, true, true, true, true, true, true, true, false, false, false, false, false, false, false, false, false, false, false, false, false, false, false, false, false, false, false, false, false, false, false, false, false, false, false, false, false, false, false, false, false, false, false, false, false, false, false, false, false, false]) (by kernel_rfl) rfl (by kernel_rfl) rfl fun K hK => ?_
      go_simp
      refine (zero_none _ _ (I3.out.below HF.out)).mono ?_
      rintro e u41 ⟨rfl, hb⟩
      have HF' := hide (HF.out.trans ((hb).mono HF.out.size))
      refine hK _ _ (fun _ => HF'.out) ?_
      clear hK K HF hb
      have HF := hide HF'.out
      clear HF'
      refine Calm.take (i := 42) (v := ?_) (a' := ?_) (l' := #[true, true, true, true, true, true, true, true, true, true, true, true, true, true, true, true, true, true, true, true, true, true, true, true, true, true, true, true, true, true, true, true, true, true, true, true, true, true, true, true, true, true, true, false, false, false, false, false, false, false, false, false, false, false, false, false, false, false, false, false, false, false, false, false, false, false, false, false, false, false, false, false, false, false, false, false, false, false, false, false, false, false, false, false]) (d := some 104) rfl (by kernel_rfl) (by kernel_rfl) (by kernel_rfl) (by kernel_rfl) (fun _ _ _ h => h) HF.out rfl ?_ rfl rfl ?_ ?_
      rotate_left
      · intro w' hF; clear hF; go_simp; try rfl
      rotate_left
      · simp only [Act.put]; exact rfl
      refine Calm.take (i := 43) (v := ?_) (a' := ?_) (l' := #[true, true, true, true, true, true, true, true, true, true, true, true, true, true, true, true, true, true, true, true, true, true, true, true, true, true, true, true, true, true, true, true, true, true, true, true, true, true, true, true, true, true, true, true, false, false, false, false, false, false, false, false, false, false, false, false, false, false, false, false, false, false, false, false, false, false, false, false, false, false, false, false, false, false, false, false, false, false, false, false, false, false, false, false]) (d := some 105) rfl (by kernel_rfl) (by kernel_rfl) (by kernel_rfl) (by kernel_rfl) (fun _ _ _ h => h) HF.out rfl ?_ rfl rfl ?_ ?_
      rotate_left
      · intro w' hF; clear hF; go_simp; try rfl
      rotate_left
      · simp only [Act.put]; exact rfl
      refine Calm.take (i := 44) (v := ?_) (a' := ?_) (l' := #[true, true, true, true, true, true, true, true, true, true, true, true, true, true, true, true, true, true, true, true, true, true, true, true, true, true, true, true, true, true, true, true, true, true, true, true, true, true, true, true, true, true, true, true, true, false, false, false, false, false, false, false, false, false, false, false, false, false, false, false, false, false, false, false, false, false, false, false, false, false, false, false, false, false, false, false, false, false, false, false, false, false, false, false]) (d := some 106) rfl (by kernel_rfl) (by kernel_rfl) (by kernel_rfl) (by kernel_rfl) (fun _ _ _ h => h) HF.out (by kernel_rfl) ?_ rfl rfl ?_ ?_
      rotate_left
      · intro w' hF; have f00 := (BZ.out.step hF).cell0; have f01 := (BZ.out.step hF).cell1; have f10 := (B1.out.step hF).cell0; have f11 := (B1.out.step hF).cell1; have f20 := (B2.out.step hF).cell0; have f21 := (B2.out.step hF).cell1; have f30 := (B3.out.step hF).cell0; have f31 := (B3.out.step hF).cell1; have f40 := (B4.out.step hF).cell0; have f41 := (B4.out.step hF).cell1; have f50 := (B5.out.step hF).cell0; have f51 := (B5.out.step hF).cell1; have f60 := (B6.out.step hF).cell0; have f61 := (B6.out.step hF).cell1; have f70 := (B7.out.step hF).cell0; have f71 := (B7.out.step hF).cell1; have f80 := (B8.out.step hF).cell0; have f81 := (B8.out.step hF).cell1; clear hF; go_simp; try rfl
      rotate_left
      · simp only [Act.put]; exact rfl
      refine Calm.one (i := 45) (l' := #[true, true, true, true, true, true, true, true, true, true, true, true, true, true, true, true, true, true, true, true, true, true, true, true, true, true, true, true, true, true, true, true, true, true, true, true, true, true, true, true, true, true, true, true, true, true, false, false, false, false, false, false, false, false, false, false, false, false, false, false, false, false, false, false, false, false, false, false, false, false, false, false, false, false, false, false, false, false, false, false, false, false, false, false]) (by kernel_rfl) rfl (by kernel_rfl) rfl fun K hK => ?_
      go_simp
      refine (zero_none _ _ (I4.out.below HF.out)).mono ?_
      rintro e u45 ⟨rfl, hb⟩
      have HF' := hide (HF.out.trans ((hb).mono HF.out.size))
      refine hK _ _ (fun _ => HF'.out) ?_
      clear hK K HF hb
      have HF := hide HF'.out
      clear HF'
      refine Calm.take (i := 46) (v := ?_) (a' := ?_) (l' := #[true, true, true, true, true, true, true, true, true, true, true, true, true, true, true, true, true, true, true, true, true, true, true, true, true, true, true, true, true, true, true, true, true, true, true, true, true, true, true, true, true, true, true, true, true, true, true, false, false, false, false, false, false, false, false, false, false, false, false, false, false, false, false, false, false, false, false, false, false, false, false, false, false, false, false, false, false, false, false, false, false, false, false, false]) (d := some 108) rfl (by kernel_rfl) (by kernel_rfl) (by kernel_rfl) (by kernel_rfl) (fun _ _ _ h => h) HF.out rfl ?_ rfl rfl ?_ ?_
      rotate_left
      · intro w' hF; clear hF; go_simp; try rfl
      rotate_left
      · simp only [Act.put]; exact rfl
      refine Calm.take (i := 47) (v := ?_) (a' := ?_) (l' := #[true, true, true, true, true, true, true, true, true, true, true, true, true, true, true, true, true, true, true, true, true, true, true, true, true, true, true, true, true, true, true, true, true, true, true, true, true, true, true, true, true, true, true, true, true, true, true, true, false, false, false, false, false, false, false, false, false, false, false, false, false, false, false, false, false, false, false, false, false, false, false, false, false, false, false, false, false, false, false, false, false, false, false, false]) (d := some 109) rfl (by kernel_rfl) (by kernel_rfl) (by kernel_rfl) (by kernel_rfl) (fun _ _ _ h => h) HF.out rfl ?_ rfl rfl ?_ ?_
      rotate_left
      · intro w' hF; clear hF; go_simp; try rfl
      rotate_left
      · simp only [Act.put]; exact rfl
      refine Calm.take (i := 48) (v := ?_) (a' := ?_) (l' := #[true, true, true, true, true, true, true, true, true, true, true, true, true, true, true, true, true, true, true, true, true, true, true, true, true, true, true, true, true, true, true, true, true, true, true, true, true, true, true, true, true, true, true, true, true, true, true, true, true, false, false, false, false, false, false, false, false, false, false, false, false, false, false, false, false, false, false, false, false, false, false, false, false, false, false, false, false, false, false, false, false, false, false, false]) (d := some 110) rfl (by kernel_rfl) (by kernel_rfl) (by kernel_rfl) (by kernel_rfl) (fun _ _ _ h => h) HF.out (by kernel_rfl) ?_ rfl rfl ?_ ?_
      rotate_left
      · intro w' hF; clear hF; go_simp; try rfl
      rotate_left
      · simp only [Act.put]; exact rfl
      refine Calm.take (i := 49) (v := ?_) (a' := ?_) (l' := #[true, true, true, true, true, true, true, true, true, true, true, true, true, true, true, true, true, true, true, true, true, true, true, true, true, true, true, true, true, true, true, true, true, true, true, true, true, true, true, true, true, true, true, true, true, true, true, true, true, true, false, false, false, false, false, false, false, false, false, false, false, false, false, false, false, false, false, false, false, false, false, false, false, false, false, false, false, false, false, false, false, false, false, false]) (d := some 111) rfl (by kernel_rfl) (by kernel_rfl) (by kernel_rfl) (by kernel_rfl) (fun _ _ _ h => h) HF.out (by kernel_rfl) ?_ rfl rfl ?_ ?_
      rotate_left
      · intro w' hF; have f00 := (BZ.out.step hF).cell0; have f01 := (BZ.out.step hF).cell1; have f10 := (B1.out.step hF).cell0; have f11 := (B1.out.step hF).cell1; have f20 := (B2.out.step hF).cell0; have f21 := (B2.out.step hF).cell1; have f30 := (B3.out.step hF).cell0; have f31 := (B3.out.step hF).cell1; have f40 := (B4.out.step hF).cell0; have f41 := (B4.out.step hF).cell1; have f50 := (B5.out.step hF).cell0; have f51 := (B5.out.step hF).cell1; have f60 := (B6.out.step hF).cell0; have f61 := (B6.out.step hF).cell1; have f70 := (B7.out.step hF).cell0; have f71 := (B7.out.step hF).cell1; have f80 := (B8.out.step hF).cell0; have f81 := (B8.out.step hF).cell1; clear hF; go_simp; try rfl
      rotate_left
      · simp only [Act.put]; exact rfl
      refine Calm.take (i := 50) (v := ?_) (a' := ?_) (l' := #[true, true, true, true, true, true, true, true, true, true, true, true, true, true, true, true, true, true, true, true, true, true, true, true, true, true, true, true, true, true, true, true, true, true, true, true, true, true, true, true, true, true, true, true, true, true, true, true, true, true, true, false, false, false, false, false, false, false, false, false, false, false, false, false, false, false, false, false, false, false, false, false, false, false, false, false, false, false, false, false, false, false, false, false]) (d := some 112) rfl (by kernel_rfl) (by kernel_rfl) (by kernel_rfl) (by kernel_rfl) (fun _ _ _ h => h) HF.out (by kernel_rfl) ?_ rfl rfl ?_ ?_
      rotate_left
      · intro w' hF; clear hF; go_simp; try rfl
      rotate_left
      · simp only [Act.put]; exact rfl
      refine Calm.take (i := 51) (v := ?_) (a' := ?_) (l' := #[true, true, true, true, true, true, true, true, true, true, true, true, true, true, true, true, true, true, true, true, true, true, true, true, true, true, true, true, true, true, true, true, true, true, true, true, true, true, true, true, true, true, true, true, true, true, true, true, true, true, true, true, false, false, false, false, false, false, false, false, false, false, false, false, false, false, false, false, false, false, false, false, false, false, false, false, false, false, false, false, false, false, false, false]) (d := some 113) rfl (by kernel_rfl) (by kernel_rfl) (by kernel_rfl) (by kernel_rfl) (fun _ _ _ h => h) HF.out rfl ?_ rfl rfl ?_ ?_
      rotate_left
      · intro w' hF; clear hF; go_simp; try rfl
      rotate_left
      · simp only [Act.put]; exact rfl
      refine Calm.take (i := 52) (v := ?_) (a' := ?_) (l' := #[true, true, true, true, true, true, true, true, true, true, true, true, true, true, true, true, true, true, true, true, true, true, true, true, true, true, true, true, true, true, true, true, true, true, true, true, true, true, true, true, true, true, true, true, true, true, true, true, true, true, true, true, true, false, false, false, false, false, false, false, false, false, false, false, false, false, false, false, false, false, false, false, false, false, false, false, false, false, false, false, false, false, false, false]) (d := some 114) rfl (by kernel_rfl) (by kernel_rfl) (by kernel_rfl) (by kernel_rfl) (fun _ _ _ h => h) HF.out rfl ?_ rfl rfl ?_ ?_
      rotate_left
      · intro w' hF; clear hF; go_simp; try rfl
      rotate_left
      · simp only [Act.put]; exact rfl
      refine Calm.take (i := 53) (v := ?_) (a' := ?_) (l' := #[true, true, true, true, true, true, true, true, true, true, true, true, true, true, true, true, true, true, true, true, true, true, true, true, true, true, true, true, true, true, true, true, true, true, true, true, true, true, true, true, true, true, true, true, true, true, true, true, true, true, true, true, true, true, false, false, false, false, false, false, false, false, false, false, false, false, false, false, false, false, false, false, false, false, false, false, false, false, false, false, false, false, false, false]) (d := some 115) rfl (by kernel_rfl) (by kernel_rfl) (by kernel_rfl) (by kernel_rfl) (fun _ _ _ h => h) HF.out (by kernel_rfl) ?_ rfl rfl ?_ ?_
      rotate_left
      · intro w' hF; clear hF; go_simp; try rfl
      rotate_left
      · simp only [Act.put]; exact rfl
      refine Calm.take (i := 54) (v := ?_) (a' := ?_) (l' := #[true, true, true, true, true, true, true, true, true, true, true, true, true, true, true, true, true, true, true, true, true, true, true, true, true, true, true, true, true, true, true, true, true, true, true, true, true, true, true, true, true, true, true, true, true, true, true, true, true, true, true, true, true, true, true, false, false, false, false, false, false, false, false, false, false, false, false, false, false, false, false, false, false, false, false, false, false, false, false, false, false, false, false, false]) (d := some 116) rfl (by kernel_rfl) (by kernel_rfl) (by kernel_rfl) (by kernel_rfl) (fun _ _ _ h => h) HF.out (by kernel_rfl) ?_ rfl rfl ?_ ?_
      rotate_left
      · intro w' hF; have f00 := (BZ.out.step hF).cell0; have f01 := (BZ.out.step hF).cell1; have f10 := (B1.out.step hF).cell0; have f11 := (B1.out.step hF).cell1; have f20 := (B2.out.step hF).cell0; have f21 := (B2.out.step hF).cell1; have f30 := (B3.out.step hF).cell0; have f31 := (B3.out.step hF).cell1; have f40 := (B4.out.step hF).cell0; have f41 := (B4.out.step hF).cell1; have f50 := (B5.out.step hF).cell0; have f51 := (B5.out.step hF).cell1; have f60 := (B6.out.step hF).cell0; have f61 := (B6.out.step hF).cell1; have f70 := (B7.out.step hF).cell0; have f71 := (B7.out.step hF).cell1; have f80 := (B8.out.step hF).cell0; have f81 := (B8.out.step hF).cell1; clear hF; go_simp; try rfl
      rotate_left
      · simp only [Act.put]; exact rfl
      refine Calm.take (i := 55) (v := ?_) (a' := ?_) (l' := #[true, true, true, true, true, true, true, true, true, true, true, true, true, true, true, true, true, true, true, true, true, true, true, true, true, true, true, true, true, true, true, true, true, true, true, true, true, true, true, true, true, true, true, true, true, true, true, true, true, true, true, true, true, true, true, true, false, false, false, false, false, false, false, false, false, false, false, false, false, false, false, false, false, false, false, false, false, false, false, false, false, false, false, false]) (d := some 117) rfl (by kernel_rfl) (by kernel_rfl) (by kernel_rfl) (by kernel_rfl) (fun _ _ _ h => h) HF.out (by kernel_rfl) ?_ rfl rfl ?_ ?_
      rotate_left
      · intro w' hF; clear hF; go_simp; try rfl
      rotate_left
      · simp only [Act.put]; exact rfl
      refine Calm.take (i := 56) (v := ?_) (a' := ?_) (l' := #[true, true, true, true, true, true, true, true, true, true, true, true, true, true, true, true, true, true, true, true, true, true, true, true, true, true, true, true, true, true, true, true, true, true, true, true, true, true, true, true, true, true, true, true, true, true, true, true, true, true, true, true, true, true, true, true, true, false, false, false, false, false, false, false, false, false, false, false, false, false, false, false, false, false, false, false, false, false, false, false, false, false, false, false]) (d := some 118) rfl (by kernel_rfl) (by kernel_rfl) (by kernel_rfl) (by kernel_rfl) (fun _ _ _ h => h) HF.out rfl ?_ rfl rfl ?_ ?_
      rotate_left
      · intro w' hF; clear hF; go_simp; try rfl
      rotate_left
      · simp only [Act.put]; exact rfl
      refine Calm.take (i := 57) (v := ?_) (a' := ?_) (l' := #[true, true, true, true, true, true, true, true, true, true, true, true, true, true, true, true, true, true, true, true, true, true, true, true, true, true, true, true, true, true, true, true, true, true, true, true, true, true, true, true, true, true, true, true, true, true, true, true, true, true, true, true, true, true, true, true, true, true, false, false, false, false, false, false, false, false, false, false, false, false, false, false, false, false, false, false, false, false, false, false, false, false, false, false]) (d := some 119) rfl (by kernel_rfl) (by kernel_rfl) (by kernel_rfl) (by kernel_rfl) (fun _ _ _ h => h) HF.out rfl ?_ rfl rfl ?_ ?_
      rotate_left
      · intro w' hF; clear hF; go_simp; try rfl
      rotate_left
      · simp only [Act.put]; exact rfl
      refine Calm.take (i := 58) (v := ?_) (a' := ?_) (l' := #[true, true, true, true, true, true, true, true, true, true, true, true, true, true, true, true, true, true, true, true, true, true, true, true, true, true, true, true, true, true, true, true, true, true, true, true, true, true, true, true, true, true, true, true, true, true, true, true, true, true, true, true, true, true, true, true, true, true, true, false, false, false, false, false, false, false, false, false, false, false, false, false, false, false, false, false, false, false, false, false, false, false, false, false]) (d := some 120) rfl (by kernel_rfl) (by kernel_rfl) (by kernel_rfl) (by kernel_rfl) (fun _ _ _ h => h) HF.out (by kernel_rfl) ?_ rfl rfl ?_ ?_
      rotate_left
      · intro w' hF; have f00 := (BZ.out.step hF).cell0; have f01 := (BZ.out.step hF).cell1; have f10 := (B1.out.step hF).cell0; have f11 := (B1.out.step hF).cell1; have f20 := (B2.out.step hF).cell0; have f21 := (B2.out.step hF).cell1; have f30 := (B3.out.step hF).cell0; have f31 := (B3.out.step hF).cell1; have f40 := (B4.out.step hF).cell0; have f41 := (B4.out.step hF).cell1; have f50 := (B5.out.step hF).cell0; have f51 := (B5.out.step hF).cell1; have f60 := (B6.out.step hF).cell0; have f61 := (B6.out.step hF).cell1; have f70 := (B7.out.step hF).cell0; have f71 := (B7.out.step hF).cell1; have f80 := (B8.out.step hF).cell0; have f81 := (B8.out.step hF).cell1; clear hF; go_simp; try rfl
      rotate_left
      · simp only [Act.put]; exact rfl
      refine Calm.one (i := 59) (l' := #[true, true, true, true, true, true, true, true, true, true, true, true, true, true, true, true, true, true, true, true, true, true, true, true, true, true, true, true, true, true, true, true, true, true, true, true, true, true, true, true, true, true, true, true, true, true, true, true, true, true, true, true, true, true, true, true, true, true, true, true, false, false, false, false, false, false, false, false, false, false, false, false, false, false, false, false, false, false, false, false, false, false, false, false]) (by kernel_rfl) rfl (by kernel_rfl) rfl fun K hK => ?_
      go_simp
      refine (iof_any 1 _ (by decide) (by decide)).mono ?_
      rintro e u59 ⟨v, rfl, i, hb⟩
      have HF' := hide (HF.out.trans ((hb).mono HF.out.size))
      have T2 := hide (i)
      refine hK _ _ (fun _ => HF'.out) ?_
      clear hK K HF hb i
      have HF := hide HF'.out
      clear HF'
      refine Calm.one (i := 60) (l' := #[true, true, true, true, true, true, true, true, true, true, true, true, true, true, true, true, true, true, true, true, true, true, true, true, true, true, true, true, true, true, true, true, true, true, true, true, true, true, true, true, true, true, true, true, true, true, true, true, true, true, true, true, true, true, true, true, true, true, true, true, true, false, false, false, false, false, false, false, false, false, false, false, false, false, false, false, false, false, false, false, false, false, false, false]) (by kernel_rfl) rfl (by kernel_rfl) rfl fun K hK => ?_
      go_simp
      refine (icmp_any _ _ 1 1 _ (I6.out.below HF.out) T2.out).mono ?_
      rintro e u60 ⟨rfl, hb⟩
      rw [show cmpZ 1 1 = 0 from by decide]
      clear T2
      have HF' := hide (HF.out.trans ((hb).mono HF.out.size))
      refine hK _ _ (fun _ => HF'.out) ?_
      clear hK K HF hb
      have HF := hide HF'.out
      clear HF'
      refine Calm.take (i := 61) (v := ?_) (a' := ?_) (l' := #[true, true, true, true, true, true, true, true, true, true, true, true, true, true, true, true, true, true, true, true, true, true, true, true, true, true, true, true, true, true, true, true, true, true, true, true, true, true, true, true, true, true, true, true, true, true, true, true, true, true, true, true, true, true, true, true, true, true, true, true, true, true, false, false, false, false, false, false, false, false, false, false, false, false, false, false, false, false, false, false, false, false, false, false]) (d := some 123) rfl (by kernel_rfl) (by kernel_rfl) (by kernel_rfl) (by kernel_rfl) (fun _ _ _ h => h) HF.out (by kernel_rfl) ?_ rfl rfl ?_ ?_
      rotate_left
      · intro w' hF; clear hF; go_simp; try rfl
      rotate_left
      · simp only [Act.put]; exact rfl
      refine Calm.take (i := 62) (v := ?_) (a' := ?_) (l' := #[true, true, true, true, true, true, true, true, true, true, true, true, true, true, true, true, true, true, true, true, true, true, true, true, true, true, true, true, true, true, true, true, true, true, true, true, true, true, true, true, true, true, true, true, true, true, true, true, true, true, true, true, true, true, true, true, true, true, true, true, true, true, true, false, false, false, false, false, false, false, false, false, false, false, false, false, false, false, false, false, false, false, false, false]) (d := some 124) rfl (by kernel_rfl) (by kernel_rfl) (by kernel_rfl) (by kernel_rfl) (fun _ _ _ h => h) HF.out rfl ?_ rfl rfl ?_ ?_
      rotate_left
      · intro w' hF; clear hF; go_simp; try rfl
      rotate_left
      · simp only [Act.put]; exact rfl
      refine Calm.take (i := 63) (v := ?_) (a' := ?_) (l' := #[true, true, true, true, true, true, true, true, true, true, true, true, true, true, true, true, true, true, true, true, true, true, true, true, true, true, true, true, true, true, true, true, true, true, true, true, true, true, true, true, true, true, true, true, true, true, true, true, true, true, true, true, true, true, true, true, true, true, true, true, true, true, true, true, false, false, false, false, false, false, false, false, false, false, false, false, false, false, false, false, false, false, false, false]) (d := some 125) rfl (by kernel_rfl) (by kernel_rfl) (by kernel_rfl) (by kernel_rfl) (fun _ _ _ h => h) HF.out rfl ?_ rfl rfl ?_ ?_
      rotate_left
      · intro w' hF; clear hF; go_simp; try rfl
      rotate_left
      · simp only [Act.put]; exact rfl
      refine Calm.take (i := 64) (v := ?_) (a' := ?_) (l' := #[true, true, true, true, true, true, true, true, true, true, true, true, true, true, true, true, true, true, true, true, true, true, true, true, true, true, true, true, true, true, true, true, true, true, true, true, true, true, true, true, true, true, true, true, true, true, true, true, true, true, true, true, true, true, true, true, true, true, true, true, true, true, true, true, true, false, false, false, false, false, false, false, false, false, false, false, false, false, false, false, false, false, false, false]) (d := some 126) rfl (by kernel_rfl) (by kernel_rfl) (by kernel_rfl) (by kernel_rfl) (fun _ _ _ h => h) HF.out (by kernel_rfl) ?_ rfl rfl ?_ ?_
      rotate_left
      · intro w' hF; clear hF; go_simp; try rfl
      rotate_left
      · simp only [Act.put]; exact rfl
      refine Calm.take (i := 65) (v := ?_) (a' := ?_) (l' := #[true, true, true, true, true, true, true, true, true, true, true, true, true, true, true, true, true, true, true, true, true, true, true, true, true, true, true, true, true, true, true, true, true, true, true, true, true, true, true, true, true, true, true, true, true, true, true, true, true, true, true, true, true, true, true, true, true, true, true, true, true, true, true, true, true, true, false, false, false, false, false, false, false, false, false, false, false, false, false, false, false, false, false, false]) (d := some 127) rfl (by kernel_rfl) (by kernel_rfl) (by kernel_rfl) (by kernel_rfl) (fun _ _ _ h => h) HF.out (by kernel_rfl) ?_ rfl rfl ?_ ?_
      rotate_left
      · intro w' hF; clear hF; go_simp; try rfl
      rotate_left
      · simp only [Act.put]; exact rfl
      refine Calm.take (i := 66) (v := ?_) (a' := ?_) (l' := #[true, true, true, true, true, true, true, true, true, true, true, true, true, true, true, true, true, true, true, true, true, true, true, true, true, true, true, true, true, true, true, true, true, true, true, true, true, true, true, true, true, true, true, true, true, true, true, true, true, true, true, true, true, true, true, true, true, true, true, true, true, true, true, true, true, true, true, false, false, false, false, false, false, false, false, false, false, false, false, false, false, false, false, false]) (d := some 128) rfl (by kernel_rfl) (by kernel_rfl) (by kernel_rfl) (by kernel_rfl) (fun _ _ _ h => h) HF.out rfl ?_ rfl rfl ?_ ?_
      rotate_left
      · intro w' hF; clear hF; go_simp; try rfl
      rotate_left
      · simp only [Act.put]; exact rfl
      refine Calm.take (i := 67) (v := ?_) (a' := ?_) (l' := #[true, true, true, true, true, true, true, true, true, true, true, true, true, true, true, true, true, true, true, true, true, true, true, true, true, true, true, true, true, true, true, true, true, true, true, true, true, true, true, true, true, true, true, true, true, true, true, true, true, true, true, true, true, true, true, true, true, true, true, true, true, true, true, true, true, true, true, true, false, false, false, false, false, false, false, false, false, false, false, false, false, false, false, false]) (d := some 129) rfl (by kernel_rfl) (by kernel_rfl) (by kernel_rfl) (by kernel_rfl) (fun _ _ _ h => h) HF.out rfl ?_ rfl rfl ?_ ?_
      rotate_left
      · intro w' hF; clear hF; go_simp; try rfl
      rotate_left
      · simp only [Act.put]; exact rfl
      refine Calm.take (i := 68) (v := ?_) (a' := ?_) (l' := #[true, true, true, true, true, true, true, true, true, true, true, true, true, true, true, true, true, true, true, true, true, true, true, true, true, true, true, true, true, true, true, true, true, true, true, true, true, true, true, true, true, true, true, true, true, true, true, true, true, true, true, true, true, true, true, true, true, true, true, true, true, true, true, true, true, true, true, true, true, false, false, false, false, false, false, false, false, false, false, false, false, false, false, false]) (d := some 130) rfl (by kernel_rfl) (by kernel_rfl) (by kernel_rfl) (by kernel_rfl) (fun _ _ _ h => h) HF.out (by kernel_rfl) ?_ rfl rfl ?_ ?_
      rotate_left
      · intro w' hF; have f00 := (BZ.out.step hF).cell0; have f01 := (BZ.out.step hF).cell1; have f10 := (B1.out.step hF).cell0; have f11 := (B1.out.step hF).cell1; have f20 := (B2.out.step hF).cell0; have f21 := (B2.out.step hF).cell1; have f30 := (B3.out.step hF).cell0; have f31 := (B3.out.step hF).cell1; have f40 := (B4.out.step hF).cell0; have f41 := (B4.out.step hF).cell1; have f50 := (B5.out.step hF).cell0; have f51 := (B5.out.step hF).cell1; have f60 := (B6.out.step hF).cell0; have f61 := (B6.out.step hF).cell1; have f70 := (B7.out.step hF).cell0; have f71 := (B7.out.step hF).cell1; have f80 := (B8.out.step hF).cell0; have f81 := (B8.out.step hF).cell1; clear hF; go_simp; try rfl
      rotate_left
      · simp only [Act.put]; exact rfl
      refine Calm.one (i := 69) (l' := #[true, true, true, true, true, true, true, true, true, true, true, true, true, true, true, true, true, true, true, true, true, true, true, true, true, true, true, true, true, true, true, true, true, true, true, true, true, true, true, true, true, true, true, true, true, true, true, true, true, true, true, true, true, true, true, true, true, true, true, true, true, true, true, true, true, true, true, true, true, true, false, false, false, false, false, false, false, false, false, false, false, false, false, false]) (by kernel_rfl) rfl (by kernel_rfl) rfl fun K hK => ?_
      go_simp
      refine (zero_none _ _ (I7.out.below HF.out)).mono ?_
      rintro e u69 ⟨rfl, hb⟩
      have HF' := hide (HF.out.trans ((hb).mono HF.out.size))
      refine hK _ _ (fun _ => HF'.out) ?_
      clear hK K HF hb
      have HF := hide HF'.out
      clear HF'
      refine Calm.take (i := 70) (v := ?_) (a' := ?_) (l' := #[true, true, true, true, true, true, true, true, true, true, true, true, true, true, true, true, true, true, true, true, true, true, true, true, true, true, true, true, true, true, true, true, true, true, true, true, true, true, true, true, true, true, true, true, true, true, true, true, true, true, true, true, true, true, true, true, true, true, true, true, true, true, true, true, true, true, true, true, true, true, true, false, false, false, false, false, false, false, false, false, false, false, false, false]) (d := some 132) rfl (by kernel_rfl) (by kernel_rfl) (by kernel_rfl) (by kernel_rfl) (fun _ _ _ h => h) HF.out rfl ?_ rfl rfl ?_ ?_
      rotate_left
      · intro w' hF; clear hF; go_simp; try rfl
      rotate_left
      · simp only [Act.put]; exact rfl
      refine Calm.take (i := 71) (v := ?_) (a' := ?_) (l' := #[true, true, true, true, true, true, true, true, true, true, true, true, true, true, true, true, true, true, true, true, true, true, true, true, true, true, true, true, true, true, true, true, true, true, true, true, true, true, true, true, true, true, true, true, true, true, true, true, true, true, true, true, true, true, true, true, true, true, true, true, true, true, true, true, true, true, true, true, true, true, true, true, false, false, false, false, false, false, false, false, false, false, false, false]) (d := some 133) rfl (by kernel_rfl) (by kernel_rfl) (by kernel_rfl) (by kernel_rfl) (fun _ _ _ h => h) HF.out rfl ?_ rfl rfl ?_ ?_
      rotate_left
      · intro w' hF; clear hF; go_simp; try rfl
      rotate_left
      · simp only [Act.put]; exact rfl
      refine Calm.take (i := 72) (v := ?_) (a' := ?_) (l' := #[true, true, true, true, true, true, true, true, true, true, true, true, true, true, true, true, true, true, true, true, true, true, true, true, true, true, true, true, true, true, true, true, true, true, true, true, true, true, true, true, true, true, true, true, true, true, true, true, true, true, true, true, true, true, true, true, true, true, true, true, true, true, true, true, true, true, true, true, true, true, true, true, true, false, false, false, false, false, false, false, false, false, false, false]) (d := some 134) rfl (by kernel_rfl) (by kernel_rfl) (by kernel_rfl) (by kernel_rfl) (fun _ _ _ h => h) HF.out (by kernel_rfl) ?_ rfl rfl ?_ ?_
      rotate_left
      · intro w' hF; clear hF; go_simp; try rfl
      rotate_left
      · simp only [Act.put]; exact rfl
      refine Calm.take (i := 73) (v := ?_) (a' := ?_) (l' := #[true, true, true, true, true, true, true, true, true, true, true, true, true, true, true, true, true, true, true, true, true, true, true, true, true, true, true, true, true, true, true, true, true, true, true, true, true, true, true, true, true, true, true, true, true, true, true, true, true, true, true, true, true, true, true, true, true, true, true, true, true, true, true, true, true, true, true, true, true, true, true, true, true, true, false, false, false, false, false, false, false, false, false, false]) (d := some 135) rfl (by kernel_rfl) (by kernel_rfl) (by kernel_rfl) (by kernel_rfl) (fun _ _ _ h => h) HF.out (by kernel_rfl) ?_ rfl rfl ?_ ?_
      rotate_left
      · intro w' hF; clear hF; go_simp; try rfl
      rotate_left
      · simp only [Act.put]; exact rfl
      refine Calm.take (i := 74) (v := ?_) (a' := ?_) (l' := #[true, true, true, true, true, true, true, true, true, true, true, true, true, true, true, true, true, true, true, true, true, true, true, true, true, true, true, true, true, true, true, true, true, true, true, true, true, true, true, true, true, true, true, true, true, true, true, true, true, true, true, true, true, true, true, true, true, true, true, true, true, true, true, true, true, true, true, true, true, true, true, true, true, true, true, false, false, false, false, false, false, false, false, false]) (d := some 136) rfl (by kernel_rfl) (by kernel_rfl) (by kernel_rfl) (by kernel_rfl) (fun _ _ _ h => h) HF.out rfl ?_ rfl rfl ?_ ?_
      rotate_left
      · intro w' hF; clear hF; go_simp; try rfl
      rotate_left
      · simp only [Act.put]; exact rfl
      refine Calm.take (i := 75) (v := ?_) (a' := ?_) (l' := #[true, true, true, true, true, true, true, true, true, true, true, true, true, true, true, true, true, true, true, true, true, true, true, true, true, true, true, true, true, true, true, true, true, true, true, true, true, true, true, true, true, true, true, true, true, true, true, true, true, true, true, true, true, true, true, true, true, true, true, true, true, true, true, true, true, true, true, true, true, true, true, true, true, true, true, true, false, false, false, false, false, false, false, false]) (d := some 137) rfl (by kernel_rfl) (by kernel_rfl) (by kernel_rfl) (by kernel_rfl) (fun _ _ _ h => h) HF.out rfl ?_ rfl rfl ?_ ?_
      rotate_left
      · intro w' hF; clear hF; go_simp; try rfl
      rotate_left
      · simp only [Act.put]; exact rfl
      refine Calm.take (i := 76) (v := ?_) (a' := ?_) (l' := #[true, true, true, true, true, true, true, true, true, true, true, true, true, true, true, true, true, true, true, true, true, true, true, true, true, true, true, true, true, true, true, true, true, true, true, true, true, true, true, true, true, true, true, true, true, true, true, true, true, true, true, true, true, true, true, true, true, true, true, true, true, true, true, true, true, true, true, true, true, true, true, true, true, true, true, true, true, false, false, false, false, false, false, false]) (d := some 138) rfl (by kernel_rfl) (by kernel_rfl) (by kernel_rfl) (by kernel_rfl) (fun _ _ _ h => h) HF.out (by kernel_rfl) ?_ rfl rfl ?_ ?_
      rotate_left
      · intro w' hF; have f00 := (BZ.out.step hF).cell0; have f01 := (BZ.out.step hF).cell1; have f10 := (B1.out.step hF).cell0; have f11 := (B1.out.step hF).cell1; have f20 := (B2.out.step hF).cell0; have f21 := (B2.out.step hF).cell1; have f30 := (B3.out.step hF).cell0; have f31 := (B3.out.step hF).cell1; have f40 := (B4.out.step hF).cell0; have f41 := (B4.out.step hF).cell1; have f50 := (B5.out.step hF).cell0; have f51 := (B5.out.step hF).cell1; have f60 := (B6.out.step hF).cell0; have f61 := (B6.out.step hF).cell1; have f70 := (B7.out.step hF).cell0; have f71 := (B7.out.step hF).cell1; have f80 := (B8.out.step hF).cell0; have f81 := (B8.out.step hF).cell1; clear hF; go_simp; try rfl
      rotate_left
      · simp only [Act.put]; exact rfl
      refine Calm.one (i := 77) (l' := #[true, true, true, true, true, true, true, true, true, true, true, true, true, true, true, true, true, true, true, true, true, true, true, true, true, true, true, true, true, true, true, true, true, true, true, true, true, true, true, true, true, true, true, true, true, true, true, true, true, true, true, true, true, true, true, true, true, true, true, true, true, true, true, true, true, true, true, true, true, true, true, true, true, true, true, true, true, true, false, false, false, false, false, false]) (by kernel_rfl) rfl (by kernel_rfl) rfl fun K hK => ?_
      go_simp
      refine (zero_none _ _ (I8.out.below HF.out)).mono ?_
      rintro e u77 ⟨rfl, hb⟩
      have HF' := hide (HF.out.trans ((hb).mono HF.out.size))
      refine hK _ _ (fun _ => HF'.out) ?_
      clear hK K HF hb
      have HF := hide HF'.out
      clear HF'
      refine Calm.take (i := 78) (v := ?_) (a' := ?_) (l' := #[true, true, true, true, true, true, true, true, true, true, true, true, true, true, true, true, true, true, true, true, true, true, true, true, true, true, true, true, true, true, true, true, true, true, true, true, true, true, true, true, true, true, true, true, true, true, true, true, true, true, true, true, true, true, true, true, true, true, true, true, true, true, true, true, true, true, true, true, true, true, true, true, true, true, true, true, true, true, true, false, false, false, false, false]) (d := some 140) rfl (by kernel_rfl) (by kernel_rfl) (by kernel_rfl) (by kernel_rfl) (fun _ _ _ h => h) HF.out rfl ?_ rfl rfl ?_ ?_
      rotate_left
      · intro w' hF; clear hF; go_simp; try rfl
      rotate_left
      · simp only [Act.put]; exact rfl
      refine Calm.take (i := 79) (v := ?_) (a' := ?_) (l' := #[true, true, true, true, true, true, true, true, true, true, true, true, true, true, true, true, true, true, true, true, true, true, true, true, true, true, true, true, true, true, true, true, true, true, true, true, true, true, true, true, true, true, true, true, true, true, true, true, true, true, true, true, true, true, true, true, true, true, true, true, true, true, true, true, true, true, true, true, true, true, true, true, true, true, true, true, true, true, true, true, false, false, false, false]) (d := some 141) rfl (by kernel_rfl) (by kernel_rfl) (by kernel_rfl) (by kernel_rfl) (fun _ _ _ h => h) HF.out rfl ?_ rfl rfl ?_ ?_
      rotate_left
      · intro w' hF; clear hF; go_simp; try rfl
      rotate_left
      · simp only [Act.put]; exact rfl
      refine Calm.take (i := 80) (v := ?_) (a' := ?_) (l' := #[true, true, true, true, true, true, true, true, true, true, true, true, true, true, true, true, true, true, true, true, true, true, true, true, true, true, true, true, true, true, true, true, true, true, true, true, true, true, true, true, true, true, true, true, true, true, true, true, true, true, true, true, true, true, true, true, true, true, true, true, true, true, true, true, true, true, true, true, true, true, true, true, true, true, true, true, true, true, true, true, true, false, false, false]) (d := some 142) rfl (by kernel_rfl) (by kernel_rfl) (by kernel_rfl) (by kernel_rfl) (fun _ _ _ h => h) HF.out (by kernel_rfl) ?_ rfl rfl ?_ ?_
      rotate_left
      · intro w' hF; clear hF; go_simp; try rfl
      rotate_left
      · simp only [Act.put]; exact rfl
      refine Calm.take (i := 81) (v := ?_) (a' := ?_) (l' := #[true, true, true, true, true, true, true, true, true, true, true, true, true, true, true, true, true, true, true, true, true, true, true, true, true, true, true, true, true, true, true, true, true, true, true, true, true, true, true, true, true, true, true, true, true, true, true, true, true, true, true, true, true, true, true, true, true, true, true, true, true, true, true, true, true, true, true, true, true, true, true, true, true, true, true, true, true, true, true, true, true, true, false, false]) (d := some 143) rfl (by kernel_rfl) (by kernel_rfl) (by kernel_rfl) (by kernel_rfl) (fun _ _ _ h => h) HF.out (by kernel_rfl) ?_ rfl rfl ?_ ?_
      rotate_left
      · intro w' hF; clear hF; go_simp; try rfl
      rotate_left
      · simp only [Act.put]; exact rfl
      refine Calm.take (i := 82) (v := ?_) (a' := ?_) (l' := #[true, true, true, true, true, true, true, true, true, true, true, true, true, true, true, true, true, true, true, true, true, true, true, true, true, true, true, true, true, true, true, true, true, true, true, true, true, true, true, true, true, true, true, true, true, true, true, true, true, true, true, true, true, true, true, true, true, true, true, true, true, true, true, true, true, true, true, true, true, true, true, true, true, true, true, true, true, true, true, true, true, true, true, false]) (d := some 144) rfl (by kernel_rfl) (by kernel_rfl) (by kernel_rfl) (by kernel_rfl) (fun _ _ _ h => h) HF.out rfl ?_ rfl rfl ?_ ?_
      rotate_left
      · intro w' hF; clear hF; go_simp; try rfl
      rotate_left
      · simp only [Act.put]; exact rfl
      refine Calm.take (i := 83) (v := ?_) (a' := ?_) (l' := #[true, true, true, true, true, true, true, true, true, true, true, true, true, true, true, true, true, true, true, true, true, true, true, true, true, true, true, true, true, true, true, true, true, true, true, true, true, true, true, true, true, true, true, true, true, true, true, true, true, true, true, true, true, true, true, true, true, true, true, true, true, true, true, true, true, true, true, true, true, true, true, true, true, true, true, true, true, true, true, true, true, true, true, true]) (d := some 0) rfl (by kernel_rfl) (by kernel_rfl) (by kernel_rfl) (by kernel_rfl) (fun _ _ _ h => h) HF.out rfl ?_ rfl rfl ?_ ?_
      rotate_left
      · intro w' hF; clear hF; go_simp; try rfl
      rotate_left
      · simp only [Act.put]; exact rfl
      refine Calm.done (by kernel_rfl) ?_
      try simp only [List.setIfInBounds_toArray, List.set_cons_succ, List.set_cons_zero]
      go_wp2
      go_ret
      exact ⟨rfl, HB.out.trans (HF.out.mono HB.out.size)⟩
end Go.Proofs.YteogbhgogiaocaaDoor
