/- swagelaw04.RowNames answers true, and turns nothing that was there. -/
import Derived.Test.YtdafdfgkfkanjaaDoorWNm
import Derived.Test.YtdafdfgkfkanjaaDoorWLive
import Derived.Test.YtdafdfgkfkanjaaDoorWText
import Derived.Laws.BytesArg
import Derived.OwnWalk
import Derived.RegionTactic
namespace Go.Proofs.YtdafdfgkfkanjaaDoor
open Go.RowKit Go.Shelf

def u8s (l : List Int) : List Value := l.map (Value.int .u8)
abbrev OwnU (w : World) (base : Nat) (v : Value) (l : List Int) : Prop := w.ownsRow base 5 1 v l.length (u8s l)
theorem OwnU.cell {w : World} {base g n c : Nat} {l : List Int} (h : OwnU w base (.slice (some ⟨g, 0, none⟩) n c) l) {k : Nat} (hk : k < l.length) : w.cell? ⟨g, k, none⟩ = some (.int .u8 (l.getD k 0)) := by
  rcases h.2 with ⟨h0, _⟩ | ⟨g', cap, cur, h0, _, _, _, _, _⟩
  · cases h0
  · simp only [Value.slice.injEq, Option.some.injEq, Addr.mk.injEq, and_true] at h0
    obtain ⟨rfl, rfl, rfl⟩ := h0
    have a0 := h.cells (g := g) rfl k (.int .u8 (l.getD k 0)) (by simp [u8s, hk])
    have hadd : ∀ j, (⟨g, 0, none⟩ : Addr).add j = ⟨g, 0 + j, none⟩ := fun j => by unfold Addr.add; split <;> simp_all
    rw [hadd, Nat.zero_add] at a0
    exact a0
theorem OwnU.frozen {w : World} {base g n c : Nat} {l : List Int} (h : OwnU w base (.slice (some ⟨g, 0, none⟩) n c) l) (k : Nat) : w.frozen? ⟨g, k, none⟩ = false := by
  rcases h.2 with ⟨h0, _⟩ | ⟨g', cap, cur, h0, _⟩
  · cases h0
  · simp only [Value.slice.injEq, Option.some.injEq, Addr.mk.injEq, and_true] at h0
    obtain ⟨rfl, rfl, rfl⟩ := h0
    exact World.ownsRow.frozenAt h k
theorem OwnU.store {w : World} {base g c n t : Nat} {d : Int} {L : List Int} (h : OwnU w base (.slice (some ⟨g, 0, none⟩) n c) L) : OwnU (w.setCell ⟨g, t, none⟩ (.int .u8 d)) base (.slice (some ⟨g, 0, none⟩) n c) (L.set t d) := by
  have e : (L.set t d).length = L.length := List.length_set ..
  show World.ownsRow _ _ _ _ _ (L.set t d).length _
  rw [e]
  refine ⟨by simp [u8s], .inr ?_⟩
  rcases h.2 with ⟨h0, _⟩ | ⟨g', cap, cur, h0, hg, hh, h1, h2, h3, h4⟩
  · cases h0
  · simp only [Value.slice.injEq, Option.some.injEq, Addr.mk.injEq, and_true] at h0
    obtain ⟨rfl, rfl, rfl⟩ := h0
    refine ⟨g, c, cur.setIfInBounds t (.int .u8 d), rfl, hg, ?_, h1, h2, by simpa using h3, ?_⟩
    · obtain ⟨hlt, hk⟩ := Array.getElem?_eq_some_iff.1 hh
      show (w.heap.modify g _)[g]? = _
      rw [Array.getElem?_eq_getElem (by rw [Array.size_modify]; exact hlt), Array.getElem_modify_self, hk]
      rfl
    · rw [Array.toList_setIfInBounds, List.take_set, h4]
      simp [u8s, List.map_set]
theorem made_u8 (n : Nat) : (madeCells #[.int .u8 0] n).toList = u8s (List.replicate n 0) := by
  rw [toList_madeCells_one]; simp [u8s]
theorem info_u8 : (Tryd.prog.info? 5).map (fun i => (i.zero, i.size, i.bytes)) = some (some (.int .u8 0), 1, 1) := by kernel_rfl
theorem own_made {w : World} {base n : Nat} {v : Value} (h : w.ownsRow base 5 1 v n (madeCells #[.int .u8 0] n).toList) : ∃ l : List Int, l.length = n ∧ OwnU w base v l := by
  refine ⟨List.replicate n 0, List.length_replicate .., ?_⟩
  show World.ownsRow _ _ _ _ _ (List.replicate n (0 : Int)).length _
  rw [List.length_replicate, ← made_u8]
  exact h
theorem strOf_size (l : List Int) : (strOfNums l).size = l.length := by simp [strOfNums, ByteArray.size]
theorem OwnU.shape {w : World} {base : Nat} {v : Value} {l : List Int} (h : OwnU w base v l) (hl : 0 < l.length) : ∃ g cap, v = .slice (some ⟨g, 0, none⟩) l.length cap ∧ base ≤ g ∧ g < w.heap.size := by
  rcases h.2 with ⟨rfl, h0⟩ | ⟨g', cap, cur, rfl, hb, hh, _⟩
  · omega
  · exact ⟨g', cap, rfl, hb, (Array.getElem?_eq_some_iff.1 hh).1⟩
theorem OwnU.below {w w' : World} {base : Nat} {v : Value} {l : List Int} (h : OwnU w base v l) (hb : Below w.heap.size w w') : OwnU w' base v l := ownsRow_below h hb
def fli (n : Nat) : List Int := (List.replicate n [49, 32]).flatten
theorem fli_succ (n : Nat) : fli (n + 1) = fli n ++ [49, 32] := by unfold fli; rw [List.replicate_succ', List.flatten_append]; rfl
theorem fli_len : ∀ n, (fli n).length = 2 * n
  | 0 => rfl
  | n + 1 => by rw [fli_succ, List.length_append, fli_len n]; rfl
theorem fl_app : ∀ n, fl (n + 1) = fl n ++ [49, 32] := fun n => by unfold fl; rw [List.replicate_succ', List.flatten_append]; rfl
theorem fli_fl : ∀ n, (fli n).map (fun n => UInt8.ofNat n.toNat) = fl n
  | 0 => rfl
  | n + 1 => by rw [fli_succ, fl_app, List.map_append, fli_fl n]; rfl
theorem bl_str (l : List Int) : bl (strOfNums l) = l.map fun n => UInt8.ofNat n.toNat := rfl
theorem first_text {l : List Int} {n m : Nat} (h : l = (91 :: fli (n + 1)).set m 93) (hm : m = 2 * n + 2) : bl (strOfNums l) = 91 :: (fl n ++ [49, 93]) := by
  subst hm
  rw [h, fli_succ, bl_str, List.set_cons_succ, List.set_append_right _ _ (by rw [fli_len]; omega), fli_len, show 2 * n + 1 - 2 * n = 1 from by omega]
  rw [List.map_cons, List.map_append, fli_fl]
  rfl
theorem second_text {l : List Int} {n m : Nat} (h : l = ((91 :: fli (n + 1)).set m 93).set m 32) (hm : m = 2 * n + 2) : l = 91 :: fli (n + 1) := by
  subst hm
  rw [h, List.set_set, fli_succ, List.set_cons_succ, List.set_append_right _ _ (by rw [fli_len]; omega), fli_len, show 2 * n + 1 - 2 * n = 1 from by omega]
  rfl
theorem second_bl {l : List Int} {n : Nat} (h : l = 91 :: fli n) : bl (strOfNums l ++ ⟨#[49, 93]⟩) = 91 :: (fl n ++ [49, 93]) := by
  rw [h, show bl (strOfNums (91 :: fli n) ++ ⟨#[49, 93]⟩) = bl (strOfNums (91 :: fli n)) ++ [49, 93] from by unfold bl; rw [ByteArray.data_append, Array.toList_append], bl_str, List.map_cons, fli_fl]
  rfl
theorem long_read {s : ByteArray} {v : Value} {a b : Nat} {w : World} (hs : s.size = 65537) (h : RowRd s v a b w) : v = .slice none 0 0 ∧ a = 3 ∧ b = 65536 := by
  rcases h with ⟨_, h⟩ | ⟨h, _⟩ | ⟨h, _⟩
  · exact h
  · omega
  · omega
theorem wtxt_none : wtxt [] = ⟨#[91, 93]⟩ := by decide +kernel

set_option maxRecDepth 100000 in
set_option maxHeartbeats 4000000 in
theorem rnames_walk (w : World) : Calls Tryd.prog 5 #[] w fun e w' => e = .returned (.bool true) ∧ Below w.heap.size w w' := by
  obtain ⟨i0, hi, hz0, hz1, hz2⟩ := info_parts info_u8
  go_enter Tryd.func5, Tryd.ntmps5
  go_wp2_with fail
  refine (rlive_any _).mono ?_
  rintro e w1 ⟨rfl, hb⟩
  have HB := hide hb
  have HB0 := hide hb
  clear hb
  go_upto_region 5 with fail
  have b1 := below_alloc w1 (.cells #[.int .u8 91] 5)
  have O0 : Hid (OwnU (w1.alloc (.cells #[.int .u8 91] 5)) w1.heap.size (.slice (some ⟨w1.heap.size, 0, none⟩) 1 1) (91 :: fli 0)) := hide (World.ownsRow_lit w1 #[.int .u8 91] 1 (Nat.le_refl _) (by unfold maxLen; decide) rfl)
  have HW := hide b1
  clear b1
  generalize w1.alloc (.cells #[.int .u8 91] 5) = w2 at *
  obtain ⟨g0, hg0⟩ : ∃ g, g = w1.heap.size := ⟨_, rfl⟩
  rw [show (Value.slice (some ⟨w1.heap.size, 0, none⟩) 1 1) = Value.slice (some ⟨g0, 0, none⟩) 1 1 from by rw [hg0]] at O0
  rw [← hg0]
  clear hg0
  go_loopw [1, 2] (fun v1 v2 wr => ∃ k : Nat, k ≤ 4096 ∧ v2 = .int .i64 k ∧ OwnU wr w1.heap.size v1 (91 :: fli k) ∧ Below w1.heap.size w1 wr) (fun _ v2 _ => 4096 - (intOf v2).toNat)
  case atStart => exact ⟨0, Nat.zero_le _, rfl, O0.out, HW.out⟩
  case round =>
    clear O0 HW
    obtain ⟨k, hk, rfl, hO, hbw⟩ := hrel
    have HO := hide hO
    have HW := hide hbw
    have LE : Hid ((91 :: fli k).length = 2 * k + 1) := hide (by rw [List.length_cons, fli_len])
    clear hO hbw
    by_cases hlt : k < 4096
    · go_wp2_with (at_builtin; refine wpList_append_own _ rfl _ _ 42 rfl w1.heap.size 5 i0 (.int .u8 0) 1 1 Tryd.underlying42 hi hz0 hz1 hz2 rfl (by decide) _ _ _ rfl (World.ownsRow.alloc HO.out _) ⟨_, 0, none⟩ 2 2 [.int .u8 49, .int .u8 32] rfl rfl ?_ ?_ ?_ ?_ ?_ ?_)
      · intro i u hi'
        match i, hi' with
        | 0, hi' => simp at hi'; subst hi'; simp [Addr.add]
        | 1, hi' => simp at hi'; subst hi'; simp [Addr.add]
      · intro u hu; simp at hu; rcases hu with rfl | rfl <;> rfl
      · rw [LE.out]; unfold maxLen; omega
      · rw [LE.out]; omega
      · have := HW.out.size; simp; omega
      intro v' w' hown hgrow _
      have HO2 : Hid (OwnU w' w1.heap.size v' (91 :: fli (k + 1))) := hide (by
        have e1 : (91 :: fli (k + 1)).length = (91 :: fli k).length + 2 := by rw [List.length_cons, List.length_cons, fli_len, fli_len]; omega
        have e2 : u8s (91 :: fli (k + 1)) = u8s (91 :: fli k) ++ [.int .u8 49, .int .u8 32] := by rw [fli_succ]; simp [u8s]
        show World.ownsRow _ _ _ _ _ _ _
        rw [e1, e2]
        exact hown)
      have HW2 := hide ((HW.out.alloc HW.out.size (.cells #[.int .u8 49, .int .u8 32] 5)).grown hgrow (by have := HW.out.size; simp; omega) (fun r e => (World.ownsRow.lt HO.out r e).1))
      clear hown hgrow HO HW LE
      go_wp2
      go_roundw
      case rel => exact ⟨k + 1, by omega, by go_num, HO2.out, HW2.out⟩
      case measure => simp [intOf]; omega
    · have e : k = 4096 := by omega
      subst e
      have HL : Hid (91 :: fli 4096 = 91 :: fli (4095 + 1)) := hide rfl
      obtain ⟨l, hl⟩ : ∃ l, l = 91 :: fli 4096 := ⟨_, rfl⟩
      rw [← hl] at HO LE
      have LQ := hide hl
      clear hl HL
      obtain ⟨g, cap, rfl, hgb, hglt⟩ := OwnU.shape HO.out (by rw [LE.out]; omega)
      obtain ⟨M, hM⟩ : ∃ M, M = l.length := ⟨_, rfl⟩
      have HM : Hid (M = 8193) := hide (by rw [hM, LE.out])
      have ML := hide hM
      rw [← hM] at HO
      rw [← hM]
      have GB := hide hgb
      have GL := hide hglt
      clear hM hgb hglt hk hlt LE
      have mb : 1 ≤ M ∧ M ≤ 9000 := by have := HM.out; omega
      replace HB := hide (HB.out.trans (HW.out.mono HB.out.size))
      have GW : Hid (w.heap.size ≤ g) := hide (by have := HB0.out.size; have := GB.out; omega)
      obtain ⟨m, hm⟩ : ∃ m, M = m + 1 := ⟨M - 1, by omega⟩
      subst hm
      have MM : Hid (m = 2 * 4095 + 2) := hide (by have := HM.out; omega)
      have ck := OwnU.cell HO.out (k := m) (by have := ML.out; omega)
      have fk := OwnU.frozen HO.out m
      have hwr : IntKind.i64.wrap (((m + 1 : Nat) : Int) - 1) = (m : Int) := by rw [IntKind.wrap_i64]; omega
      go_upto_region 9 with fail
      replace HO : Hid (OwnU (wr.setCell ⟨g, m, none⟩ (.int .u8 93)) w1.heap.size (.slice (some ⟨g, 0, none⟩) (m + 1) cap) (l.set m 93)) := hide (OwnU.store HO.out)
      replace HB := hide (HB.out.setCell (p := ⟨g, m, none⟩) GW.out (.int .u8 93))
      replace GL : Hid (g < (wr.setCell ⟨g, m, none⟩ (.int .u8 93)).heap.size) := hide (by have := GL.out; simpa [World.setCell] using this)
      clear ck fk hwr HW
      generalize wr.setCell ⟨g, m, none⟩ (.int .u8 93) = w3 at *
      have L1 : Hid ((l.set m 93).length = m + 1) := hide (by rw [List.length_set]; exact ML.out.symm)
      have hconv := run_convert_bytes_arg (P := Tryd.prog) w3 42 5 Tryd.underlying42 Tryd.underlying5 g 0 (m + 1) cap (l.set m 93) L1.out (fun i hi => by rw [Nat.zero_add]; exact OwnU.cell HO.out (by rw [L1.out]; exact hi)) 9 Tryd.underlying9
      obtain ⟨s1, hs1⟩ : ∃ s, s = strOfNums (l.set m 93) := ⟨_, rfl⟩
      rw [← hs1] at hconv
      have T1 : Hid (bl s1 = 91 :: (fl 4095 ++ [49, 93])) := hide (by rw [hs1]; exact first_text (by rw [LQ.out]) MM.out)
      have Z1 : Hid (s1.size ≤ 9000) := hide (by rw [← bl_len, T1.out, List.length_cons, List.length_append, fl_len]; decide)
      clear hs1
      go_wp2_with fail
      clear hconv
      refine (rread_any s1 _ (by have := Z1.out; omega)).mono ?_
      rintro e w4 ⟨v1, a1, b1, rfl, hr, hb⟩
      obtain ⟨rfl, rfl, zs1, hz1', hi1⟩ := (ones_read T1.out (by decide) hr).1 (by decide)
      obtain ⟨va, vc, rfl, _⟩ := hi1
      rw [show zs1.length = 4096 from hz1']
      replace HB := hide (HB.out.trans (hb.mono HB.out.size))
      replace HO := hide (HO.out.below hb)
      replace GL := hide (Nat.lt_of_lt_of_le GL.out hb.size)
      clear hr hb hz1' T1 Z1
      go_upto_region 10 with fail
      have b1 := below_alloc w4 (.cells #[.int .i64 0, .int .i64 0] 33)
      have AX := hide (Box2.new w4 33 (.int .i64 0) (.int .i64 0))
      replace HB := hide (HB.out.trans (b1.mono HB.out.size))
      replace HO := hide (HO.out.below b1)
      have AL : Hid (g < w4.heap.size) := hide GL.out
      replace GL : Hid (g < (w4.alloc (.cells #[.int .i64 0, .int .i64 0] 33)).heap.size) := hide (Nat.lt_of_lt_of_le GL.out b1.size)
      clear b1
      generalize w4.alloc (.cells #[.int .i64 0, .int .i64 0] 33) = w5 at *
      obtain ⟨A, hA⟩ : ∃ X, X = w4.heap.size := ⟨_, rfl⟩
      have AN : Hid (g < A) := hide (by have := AL.out; omega)
      rw [← hA] at AX
      rw [← hA]
      clear hA AL
      have ck := OwnU.cell HO.out (k := m) (by rw [L1.out]; omega)
      have fk := OwnU.frozen HO.out m
      have hwr : IntKind.i64.wrap (((m + 1 : Nat) : Int) - 1) = (m : Int) := by rw [IntKind.wrap_i64]; omega
      go_upto_region 11 with fail
      replace HO : Hid (OwnU (w5.setCell ⟨g, m, none⟩ (.int .u8 32)) w1.heap.size (.slice (some ⟨g, 0, none⟩) (m + 1) cap) ((l.set m 93).set m 32)) := hide (OwnU.store HO.out)
      replace HB := hide (HB.out.setCell (p := ⟨g, m, none⟩) GW.out (.int .u8 32))
      replace AX := hide ((Below.heap_setCell w5 ⟨g, m, none⟩ (.int .u8 32) A (by show A ≠ g; have := AN.out; omega)).trans AX.out)
      replace GL : Hid (g < (w5.setCell ⟨g, m, none⟩ (.int .u8 32)).heap.size) := hide (by have := GL.out; simpa [World.setCell] using this)
      clear ck fk hwr
      replace AX : Hid (Box2 (w5.setCell ⟨g, m, none⟩ (.int .u8 32)) A 33 (.int .i64 0) (.int .i64 0)) := AX
      generalize w5.setCell ⟨g, m, none⟩ (.int .u8 32) = w6 at *
      have L2 : Hid (((l.set m 93).set m 32).length = m + 1) := hide (by rw [List.length_set]; exact L1.out)
      have hconv := run_convert_bytes_arg (P := Tryd.prog) w6 42 5 Tryd.underlying42 Tryd.underlying5 g 0 (m + 1) cap ((l.set m 93).set m 32) L2.out (fun i hi => by rw [Nat.zero_add]; exact OwnU.cell HO.out (by rw [L2.out]; exact hi)) 9 Tryd.underlying9
      obtain ⟨s2, hs2⟩ : ∃ s, s = strOfNums ((l.set m 93).set m 32) := ⟨_, rfl⟩
      rw [← hs2] at hconv
      have T2 : Hid (bl (s2 ++ ⟨#[49, 93]⟩) = 91 :: (fl 4096 ++ [49, 93])) := hide (by rw [hs2]; exact second_bl (second_text (n := 4095) (by rw [LQ.out]) MM.out))
      have Z2 : Hid ((s2 ++ ⟨#[49, 93]⟩).size ≤ 9000) := hide (by rw [← bl_len, T2.out, List.length_cons, List.length_append, fl_len]; decide)
      have z2 : s2.size ≤ 9000 := by have := Z2.out; rw [ByteArray.size_append] at this; omega
      clear hs2
      go_wp2_with fail
      clear hconv
      refine (rread_any _ _ (by have := Z2.out; omega)).mono ?_
      rintro e w7 ⟨v2, a2, b2, rfl, hr, hb⟩
      obtain ⟨rfl, rfl, rfl⟩ := (ones_read T2.out (by decide) hr).2 (by decide)
      replace HB := hide (HB.out.trans (hb.mono HB.out.size))
      replace AX := hide (AX.out.step hb)
      clear hr hb T2 Z2 z2 HO GL L1 L2
      go_upto_region 12 with fail
      have b1 := below_alloc w7 (.cells #[.int .i64 ((3 : Nat) : Int), .int .i64 ((1 + 2 * 4096 : Nat) : Int)] 33)
      have CX := hide (Box2.new w7 33 (.int .i64 ((3 : Nat) : Int)) (.int .i64 ((1 + 2 * 4096 : Nat) : Int)))
      replace HB := hide (HB.out.trans (b1.mono HB.out.size))
      replace AX := hide (AX.out.step b1)
      clear b1
      generalize w7.alloc (.cells #[.int .i64 ((3 : Nat) : Int), .int .i64 ((1 + 2 * 4096 : Nat) : Int)] 33) = w8 at *
      obtain ⟨C, hC⟩ : ∃ X, X = w7.heap.size := ⟨_, rfl⟩
      rw [← hC] at CX
      rw [← hC]
      clear hC
      go_wp2_with (at_make; refine wpList_make_full _ rfl _ _ 42 rfl w8.heap.size 5 i0 (.int .u8 0) 1 Tryd.underlying42 hi hz0 hz1 _ _ _ _ 65537 rfl rfl rfl rfl (by rw [hz2]; omega) (by unfold maxLen; omega) (Nat.le_refl _) ?_)
      intro w9 hown hgrow
      have hb : Below w8.heap.size w8 w9 := (Below.refl _ _).grown hgrow (Nat.le_refl _) (fun k hk => by simp at hk)
      obtain ⟨l0, hl0, hO⟩ := own_made hown
      have O0 := hide hO
      replace HB := hide (HB.out.trans (hb.mono HB.out.size))
      replace AX := hide (AX.out.step hb)
      replace CX := hide (CX.out.step hb)
      clear hown hgrow hb hO
      obtain ⟨gL, hgL⟩ : ∃ q, q = w8.heap.size := ⟨_, rfl⟩
      rw [← hgL]
      have O1 : Hid (OwnU w9 w8.heap.size (.slice (some ⟨gL, 0, none⟩) 65537 65537) l0) := hide (by rw [hgL]; exact O0.out)
      clear hgL O0
      obtain ⟨N, hN⟩ : ∃ N : Nat, 65537 = N := ⟨_, rfl⟩
      have HN := hide hN.symm
      rw [hN] at hl0 O1 ⊢
      clear hN
      have hconv := run_convert_bytes_arg (P := Tryd.prog) w9 42 5 Tryd.underlying42 Tryd.underlying5 gL 0 N N l0 hl0 (fun i hi => by rw [Nat.zero_add]; exact OwnU.cell O1.out (by rw [hl0]; exact hi)) 9 Tryd.underlying9
      obtain ⟨s3, hs3⟩ : ∃ s, s = strOfNums l0 := ⟨_, rfl⟩
      rw [← hs3] at hconv
      have SZ : Hid (s3.size = 65537) := hide (by rw [hs3, strOf_size, hl0]; exact HN.out)
      clear hs3 O1
      go_wp2_with fail
      clear hconv
      refine (rread_any s3 _ (by rw [SZ.out]; decide)).mono ?_
      rintro e w10 ⟨v3, a3, b3, rfl, hr, hb⟩
      obtain ⟨rfl, rfl, rfl⟩ := long_read SZ.out hr
      replace HB := hide (HB.out.trans (hb.mono HB.out.size))
      replace AX := hide (AX.out.step hb)
      replace CX := hide (CX.out.step hb)
      clear hr hb SZ hl0
      go_upto_region 13 with fail
      have b1 := below_alloc w10 (.cells #[.int .i64 ((3 : Nat) : Int), .int .i64 ((65536 : Nat) : Int)] 33)
      have EX := hide (Box2.new w10 33 (.int .i64 ((3 : Nat) : Int)) (.int .i64 ((65536 : Nat) : Int)))
      replace HB := hide (HB.out.trans (b1.mono HB.out.size))
      replace AX := hide (AX.out.step b1)
      replace CX := hide (CX.out.step b1)
      clear b1
      generalize w10.alloc (.cells #[.int .i64 ((3 : Nat) : Int), .int .i64 ((65536 : Nat) : Int)] 33) = w11 at *
      obtain ⟨E, hE⟩ : ∃ X, X = w10.heap.size := ⟨_, rfl⟩
      rw [← hE] at EX
      rw [← hE]
      clear hE
      have a0 := AX.out.cell0
      have c0 := CX.out.cell0
      have c1 := CX.out.cell1
      have e0 := EX.out.cell0
      have e1 := EX.out.cell1
      have hm8 : m = 8192 := by have := HM.out; omega
      subst hm8
      go_wp2_with fail
      refine (rtext_any _ [] _ (ints_nil _) (by simp) (fun i => by rw [List.getD_nil, show (0 : Int).natAbs = 0 from rfl, lim_zero]; decide) (by rw [List.map_nil, Lib.join_nil]; decide)).mono ?_
      rintro e w12 ⟨rfl, hb⟩
      replace HB := hide (HB.out.trans (hb.mono HB.out.size))
      rw [wtxt_none]
      clear hb
      go_wp2
      go_ret
      exact ⟨rfl, HB.out⟩
end Go.Proofs.YtdafdfgkfkanjaaDoor
