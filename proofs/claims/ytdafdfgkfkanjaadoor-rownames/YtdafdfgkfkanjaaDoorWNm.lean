/- Rows of ones: what Read says of their texts. -/
import Derived.Test.YtdafdfgkfkanjaaDoorWRd
import Derived.Test.YtdafdfgkfkanjaaDoorPre
import Derived.Test.YtdafdfgkfkanjaaDoorR2Make
import Derived.Test.YtdafdfgkfkanjaaDoorIVar
import Derived.Test.YtdafdfgkfkanjaaDoorNorm
import Derived.Test.YtdafdfgkfkanjaaDoorCalm
import Derived.Test.YtdafdfgkfkanjaaDoorDivOwn
import Derived.Test.YtdafdfgkfkanjaaDoorTx
import Derived.Test.YtdafdfgkfkanjaaDoorWList
import Derived.Test.YtdafdfgkfkanjaaDoorCalm3
import Derived.Deep.Cut
import Derived.Test.YtdafdfgkfkanjaaDoorWAppIn
import Derived.Test.YtdafdfgkfkanjaaDoorWText
namespace Go.Proofs.YtdafdfgkfkanjaaDoor
open Go.RowKit Go.Shelf

/-- what is told of the numbers between the brackets -/
def RNumP (s : ByteArray) (a b : Nat) : Prop :=
  (s.size = 0 ∧ a = 0 ∧ b = 0) ∨
  (s.size ≠ 0 ∧ (∃ zs, AllRd (splB 32 s) zs) ∧ a = spE (splB 32 s) ∧ b = spA (splB 32 s)) ∨
  (s.size ≠ 0 ∧ ∃ pre x z b', pre ++ [x] <+: splB 32 s ∧ (∃ zs, AllRd pre zs) ∧ IRd x z a b' ∧ a ≠ 0 ∧ b = 1 + tot pre + b')
theorem RNum.pure {s : ByteArray} {v : Value} {a b : Nat} {w : World} (h : RNum s v a b w) : RNumP s a b := by
  rcases h with ⟨h1, _, h2⟩ | ⟨h1, zs, h2, _, h3⟩ | h
  · exact .inl ⟨h1, h2⟩
  · exact .inr (.inl ⟨h1, ⟨zs, h2⟩, h3⟩)
  · exact .inr (.inr h)
/-- these are the numbers between the brackets -/
def RowZ (s : ByteArray) (zs : List Int) : Prop := (s.size = 0 ∧ zs = []) ∨ (s.size ≠ 0 ∧ AllRd (splB 32 s) zs)
theorem ints_nil (w : World) : Ints w (.slice none 0 0) [] := ⟨none, 0, rfl, Nat.le_refl _, by simp [maxLen], fun h => absurd rfl h⟩
theorem RNum.good {s : ByteArray} {v : Value} {b : Nat} {w : World} (h : RNum s v 0 b w) : ∃ zs, RowZ s zs ∧ Ints w v zs := by
  rcases h with ⟨h1, rfl, h2⟩ | ⟨h1, zs, h2, h3, _⟩ | ⟨_, _, _, _, _, _, _, _, h, _⟩
  · exact ⟨[], .inl ⟨h1, rfl⟩, ints_nil w⟩
  · exact ⟨zs, .inr ⟨h1, h2⟩, h3⟩
  · exact absurd rfl h
theorem Ints.set2 {w : World} {v : Value} {zs : List Int} {g o : Nat} {t : TypeId} {x y : Int} {u : Value} (h : Ints w v zs) (hg : Box2 w g t (.int .i64 x) (.int .i64 y)) : Ints (w.setCell ⟨g, o, none⟩ u) v zs := by
  have hgr : w.grownBy (w.setCell ⟨g, o, none⟩ u) (some g) := ⟨rfl, rfl, rfl, by simp [World.setCell], fun k _ h => Below.heap_setCell _ _ _ _ (by simpa using h)⟩
  have hsp := spares_row hgr (Box2.noLimb hg (by simp) (by simp))
  obtain ⟨a, cap, rfl, h1, h2, h3⟩ := h
  refine ⟨a, cap, rfl, h1, h2, fun hne => ?_⟩
  obtain ⟨b, off, rfl, hc⟩ := h3 hne
  refine ⟨b, off, rfl, fun i hi => ?_⟩
  obtain ⟨s, m, c, n, k1, k2, k3⟩ := hc i hi
  have hb : b ≠ g := by
    rintro rfl
    unfold World.cell? at k1
    rw [show w.heap[b]? = _ from hg] at k1
    revert k1
    generalize off + i * 2 = j
    match j with
    | 0 => simp
    | 1 => simp
    | j + 2 => simp
  have e : ∀ j, (w.setCell ⟨g, o, none⟩ u).cell? ⟨b, j, none⟩ = w.cell? ⟨b, j, none⟩ := fun j => World.cell?_of_block (Below.heap_setCell _ _ _ _ hb)
  exact ⟨s, m, c, n, (e _).trans k1, (e _).trans k2, k3.keep hsp⟩
/-- what Read answers of the parts of a text -/
def RdC (s : ByteArray) (t : ByteArray × ByteArray × Bool) (a0 b0 : Nat) (v : Value) (a b : Nat) (w : World) : Prop :=
  (a0 = 6 ∧ v = .slice none 0 0 ∧ a = 6 ∧ b = b0) ∨
  (a0 ≠ 6 ∧ t.2.2 = false ∧ v = .slice none 0 0 ∧ a = 6 ∧ b = s.size) ∨
  (a0 ≠ 6 ∧ t.2.2 = true ∧ t.2.1.size ≠ 0 ∧ v = .slice none 0 0 ∧ a = 6 ∧ b = s.size - t.2.1.size) ∨
  (a0 ≠ 6 ∧ a0 ≠ 0 ∧ t.2.2 = true ∧ t.2.1.size = 0 ∧ v = .slice none 0 0 ∧ a = a0 ∧ b = b0) ∨
  (a0 = 0 ∧ t.2.2 = true ∧ t.2.1.size = 0 ∧ a = 0 ∧ b = 0 ∧ ∃ zs, RowZ t.1 zs ∧ Ints w v zs)
def RowRd (s : ByteArray) (v : Value) (a b : Nat) (w : World) : Prop :=
  (65536 < s.size ∧ v = .slice none 0 0 ∧ a = 3 ∧ b = 65536) ∨
  (s.size ≤ 65536 ∧ hp s 91 = false ∧ v = .slice none 0 0 ∧ a = 6 ∧ b = 0) ∨
  (s.size ≤ 65536 ∧ hp s 91 = true ∧ ∃ a0 b0, RNumP (cutB 93 (rest1 s)).1 a0 b0 ∧ RdC s (cutB 93 (rest1 s)) a0 b0 v a b w)
theorem ret_ts {fn : Func} {R : Ending → World → Prop} {a : Act} {w : World} {p q : Tmp} (h : fn.results = #[.tmp p, .cell q 33]) (g : Nat) (x y : Value) (hq : a.tmps.getD q undef = .pointer (some ⟨g, 0, none⟩)) (hg : Box2 w g 33 x y) (hd : a.defers = [])
    (hR : R (.returned (.tuple #[a.tmps.getD p undef, .agg #[x, y]])) w) : bodyPost Tryd.prog fn R .ret a w := bodyPost_ret (res_ts h _ _ g x y hq hg) hd hR
theorem cutB_size (c : UInt8) (s : ByteArray) : (cutB c s).1.size ≤ s.size ∧ (cutB c s).2.1.size ≤ s.size := by
  unfold cutB
  split
  · exact ⟨Nat.le_refl _, Nat.zero_le _⟩
  · exact ⟨by rw [ByteArray.size_extract]; omega, by rw [ByteArray.size_extract]; omega⟩
theorem RNum.small {s : ByteArray} {v : Value} {a b : Nat} {w : World} (h : RNum s v a b w) (hs : s.size ≤ 65536) : b ≤ 300000 := by
  rcases h with ⟨_, _, _, rfl⟩ | ⟨_, zs, _, _, _, rfl⟩ | ⟨_, pre, x, z, b', hp, _, hx, _, rfl⟩
  · omega
  · unfold spA
    split
    · omega
    · have := tot_pre (List.take_prefix 4096 (splB 32 s)); rw [tot_splB] at this; omega
  · have h1 := tot_pre hp
    rw [tot_app, tot_splB] at h1
    have h2 := hx.bsmall
    omega
set_option maxRecDepth 100000 in
set_option maxHeartbeats 3000000 in
theorem rread_any (s : ByteArray) (w : World) (hs : s.size ≤ 4000000000) :
    Calls Tryd.prog 10 #[.string s] w fun e w' => ∃ v a b, e = .returned (.tuple #[v, .agg #[.int .i64 (a : Nat), .int .i64 (b : Nat)]]) ∧ RowRd s v a b w' ∧ Below w.heap.size w w' := by
  have BR := hide (Box2.new w 33 (.int .i64 0) (.int .i64 0))
  have HB := hide (below_alloc w (.cells #[.int .i64 0, .int .i64 0] 33))
  go_enter Tryd.func10, Tryd.ntmps10
  go_upto_region 1 with fail
  generalize w.alloc (.cells #[.int .i64 0, .int .i64 0] 33) = w1 at *
  obtain ⟨R, hR⟩ : ∃ R, R = w.heap.size := ⟨_, rfl⟩
  have GR : Hid (w.heap.size ≤ R) := hide (Nat.le_of_eq hR.symm)
  rw [← hR] at BR
  rw [← hR]
  clear hR
  have c0 := BR.out.cell0
  have c1 := BR.out.cell1
  have fr := BR.out.free
  have f0 := fr 0
  have f1 := fr 1
  clear fr
  by_cases hb : 65536 < s.size
  · go_wp2
    refine ret_ts rfl R _ _ rfl (BR.out.put _ _) rfl ?_
    refine ⟨.slice none 0 0, 3, 65536, rfl, .inl ⟨hb, rfl, rfl, rfl⟩, (HB.out.setCell (p := ⟨R, 0, none⟩) GR.out _).setCell (p := ⟨R, 1, none⟩) GR.out _⟩
  · have hsz : s.size ≤ 65536 := by omega
    go_wp2_with fail
    refine (hasPrefix_any s 91 w1 (by omega)).mono ?_
    rintro e w' ⟨rfl, rfl⟩
    cases hh : hp s 91 with
    | false =>
      go_wp2
      refine ret_ts rfl R _ _ rfl (BR.out.put _ _) rfl ?_
      refine ⟨.slice none 0 0, 6, 0, rfl, .inr (.inl ⟨hsz, hh, rfl, rfl, rfl⟩), (HB.out.setCell (p := ⟨R, 0, none⟩) GR.out _).setCell (p := ⟨R, 1, none⟩) GR.out _⟩
    | true =>
      have hpos : 0 < s.size := (hp_yes hh).1
      have HH := hide hh
      clear hh c0 c1 f0 f1 hb
      go_wp2_with fail
      refine (cut_any (rest1 s) 93 _ (by rw [rest1_size]; omega)).mono ?_
      have HC := hide (cutB_size 93 (rest1 s))
      obtain ⟨t, ht⟩ : ∃ t, t = cutB 93 (rest1 s) := ⟨_, rfl⟩
      rw [← ht] at HC ⊢
      have HT := hide ht
      clear ht
      obtain ⟨ti, tb, tc⟩ := t
      dsimp only at HC ⊢
      rintro e w2 ⟨rfl, hb2⟩
      replace BR := hide (BR.out.step hb2)
      replace HB := hide (HB.out.trans (hb2.mono HB.out.size))
      clear hb2
      have SI : Hid (ti.size ≤ 65536) := hide (by have := HC.out.1; rw [rest1_size] at this; omega)
      have SB : Hid (tb.size ≤ s.size) := hide (by have := HC.out.2; rw [rest1_size] at this; omega)
      clear HC
      go_wp2_with fail
      refine (rnum_any ti _ SI.out).mono ?_
      rintro e w3 ⟨v0, a0, b0, rfl, hn, hb3⟩
      replace BR := hide (BR.out.step hb3)
      replace HB := hide (HB.out.trans (hb3.mono HB.out.size))
      have RN := hide hn
      have BS : Hid (b0 ≤ 300000) := hide (hn.small SI.out)
      clear hn hb3
      go_upto_region 7 with fail
      have b1 := below_alloc w3 (.cells #[.int .i64 (a0 : Nat), .int .i64 (b0 : Nat)] 33)
      have SX := hide (Box2.new w3 33 (.int .i64 (a0 : Nat)) (.int .i64 (b0 : Nat)))
      have RX : Hid (R < w3.heap.size) := hide BR.out.lt
      replace BR := hide (BR.out.step b1)
      replace HB := hide (HB.out.trans (b1.mono HB.out.size))
      have RP := hide RN.out.pure
      replace RN : Hid (a0 = 0 → ∃ zs, RowZ ti zs ∧ Ints (w3.alloc (.cells #[.int .i64 (a0 : Nat), .int .i64 (b0 : Nat)] 33)) v0 zs) := hide (fun e => by subst e; obtain ⟨zs, h1, h2⟩ := RN.out.good; exact ⟨zs, h1, h2.below b1⟩)
      clear b1
      generalize w3.alloc (.cells #[.int .i64 (a0 : Nat), .int .i64 (b0 : Nat)] 33) = w4 at *
      obtain ⟨X, hX⟩ : ∃ X, X = w3.heap.size := ⟨_, rfl⟩
      have RX2 : R < X := by have := RX.out; omega
      have GX : Hid (w.heap.size ≤ X) := hide (by have := GR.out; omega)
      rw [← hX] at SX
      rw [← hX]
      clear hX RX
      have c0 := BR.out.cell0
      have c1 := BR.out.cell1
      have fr := BR.out.free
      have f0 := fr 0
      have f1 := fr 1
      have d0 := SX.out.cell0
      have d1 := SX.out.cell1
      have fx := SX.out.free
      have g0 := fx 0
      have g1 := fx 1
      clear fr fx
      by_cases h6 : a0 = 6
      · have h6' : ((a0 : Int) == 6) = true := by simp; omega
        have h0' : ((a0 : Int) != 0) = true := by simp; omega
        go_wp2
        go_region
        go_wp2
        refine ret_ts rfl R _ _ rfl (BR.out.put _ _) rfl ?_
        refine ⟨.slice none 0 0, 6, b0, rfl, .inr (.inr ⟨hsz, HH.out, a0, b0, by rw [← HT.out]; exact RP.out, by rw [← HT.out]; exact .inl ⟨h6, rfl, rfl, rfl⟩⟩), ((HB.out.setCell (p := ⟨R, 0, none⟩) GR.out _).setCell (p := ⟨R, 1, none⟩) GR.out _).drew⟩
      · have h6' : ((a0 : Int) == 6) = false := by simp; omega
        cases tc with
        | false =>
          go_wp2
          have SY := hide (SX.out.put (.int .i64 6) (.int .i64 (s.size : Nat)))
          replace BR := hide (bx2_set (o := 1) (u := .int .i64 (s.size : Nat)) (bx2_set (o := 0) (u := .int .i64 6) BR.out (c := X) (by omega)) (c := X) (by omega))
          replace HB := hide ((HB.out.setCell (p := ⟨X, 0, none⟩) GX.out (.int .i64 6)).setCell (p := ⟨X, 1, none⟩) GX.out (.int .i64 (s.size : Nat)))
          clear c0 c1 f0 f1 d0 d1 g0 g1 SX
          generalize (w4.setCell ⟨X, 0, none⟩ (.int .i64 6)).setCell ⟨X, 1, none⟩ (.int .i64 (s.size : Nat)) = w5 at *
          have c0 := BR.out.cell0
          have c1 := BR.out.cell1
          have fr := BR.out.free
          have f0 := fr 0
          have f1 := fr 1
          have d0 := SY.out.cell0
          have d1 := SY.out.cell1
          clear fr
          go_region
          go_wp2
          refine ret_ts rfl R _ _ rfl (BR.out.put _ _) rfl ?_
          refine ⟨.slice none 0 0, 6, s.size, rfl, .inr (.inr ⟨hsz, HH.out, a0, b0, by rw [← HT.out]; exact RP.out, by rw [← HT.out]; exact .inr (.inl ⟨h6, rfl, rfl, rfl, rfl⟩)⟩), ((HB.out.setCell (p := ⟨R, 0, none⟩) GR.out _).setCell (p := ⟨R, 1, none⟩) GR.out _).drew⟩
        | true =>
          by_cases ht0 : tb.size = 0
          · have he : tb.toList.isEmpty = true := by rw [str_empty, ht0]; rfl
            by_cases h0 : a0 = 0
            · have h0' : ((a0 : Int) != 0) = false := by simp; omega
              go_wp2
              obtain ⟨zs, z1, z2⟩ := RN.out h0
              refine ret_ts rfl R _ _ rfl (BR.out.put _ _) rfl ?_
              refine ⟨v0, 0, 0, rfl, .inr (.inr ⟨hsz, HH.out, a0, b0, by rw [← HT.out]; exact RP.out, by rw [← HT.out]; exact .inr (.inr (.inr (.inr ⟨h0, rfl, ht0, rfl, rfl, zs, z1, (z2.set2 BR.out).set2 (BR.out.set0 (.int .i64 0))⟩)))⟩), (HB.out.setCell (p := ⟨R, 0, none⟩) GR.out _).setCell (p := ⟨R, 1, none⟩) GR.out _⟩
            · have h0' : ((a0 : Int) != 0) = true := by simp; omega
              go_wp2
              go_region
              go_wp2
              refine ret_ts rfl R _ _ rfl (BR.out.put _ _) rfl ?_
              refine ⟨.slice none 0 0, a0, b0, rfl, .inr (.inr ⟨hsz, HH.out, a0, b0, by rw [← HT.out]; exact RP.out, by rw [← HT.out]; exact .inr (.inr (.inr (.inl ⟨h6, h0, rfl, ht0, rfl, rfl, rfl⟩)))⟩), ((HB.out.setCell (p := ⟨R, 0, none⟩) GR.out _).setCell (p := ⟨R, 1, none⟩) GR.out _).drew⟩
          · have he : tb.toList.isEmpty = false := by rw [str_empty]; simp [ht0]
            have sb := SB.out
            go_wp2
            have SY := hide (SX.out.put (.int .i64 6) (.int .i64 ((s.size : Int) - (tb.size : Int))))
            replace BR := hide (bx2_set (o := 1) (u := .int .i64 ((s.size : Int) - (tb.size : Int))) (bx2_set (o := 0) (u := .int .i64 6) BR.out (c := X) (by omega)) (c := X) (by omega))
            replace HB := hide ((HB.out.setCell (p := ⟨X, 0, none⟩) GX.out (.int .i64 6)).setCell (p := ⟨X, 1, none⟩) GX.out (.int .i64 ((s.size : Int) - (tb.size : Int))))
            clear c0 c1 f0 f1 d0 d1 g0 g1 SX
            generalize (w4.setCell ⟨X, 0, none⟩ (.int .i64 6)).setCell ⟨X, 1, none⟩ (.int .i64 ((s.size : Int) - (tb.size : Int))) = w5 at *
            have c0 := BR.out.cell0
            have c1 := BR.out.cell1
            have fr := BR.out.free
            have f0 := fr 0
            have f1 := fr 1
            have d0 := SY.out.cell0
            have d1 := SY.out.cell1
            clear fr
            go_region
            go_wp2
            have hcs : ((s.size : Int) - (tb.size : Int)) = ((s.size - tb.size : Nat) : Int) := by omega
            rw [hcs]
            refine ret_ts rfl R _ _ rfl (BR.out.put _ _) rfl ?_
            refine ⟨.slice none 0 0, 6, (s.size - tb.size), rfl, .inr (.inr ⟨hsz, HH.out, a0, b0, by rw [← HT.out]; exact RP.out, by rw [← HT.out]; exact .inr (.inr (.inl ⟨h6, rfl, ht0, rfl, rfl, rfl⟩))⟩), ((HB.out.setCell (p := ⟨R, 0, none⟩) GR.out _).setCell (p := ⟨R, 1, none⟩) GR.out _).drew⟩
end Go.Proofs.YtdafdfgkfkanjaaDoor

namespace Go.Proofs.YtdafdfgkfkanjaaDoor
open Go.RowKit

/-- one more limb behind what is owned -/
theorem own_step {w5 w6 w1 : World} {base T : Nat} {v5 v6 : Value} {acc : List Nat} {x : Int} {n : Nat} (hx : x = (n : Int)) {o : Obj} (hO : Own w5 base v5 acc)
    (hown6 : w6.ownsRow base 74 1 v6 (acc.length + 1) (ints acc ++ [Value.int .u32 x])) (hgrow6 : (w5.alloc o).grownBy w6 v5.ownBlock) (hB5 : Below T w1 w5) (hT : T ≤ w5.heap.size) (hb : T ≤ base) :
    Own w6 base v6 (acc ++ [n]) ∧ Below T w1 w6 := by
  constructor
  · subst hx
    have e1 : ints acc ++ [Value.int .u32 (n : Int)] = ints (acc ++ [n]) := by simp [ints]
    rw [e1] at hown6
    show World.ownsRow _ _ _ _ _ _ _; simpa using hown6
  · exact (hB5.alloc hT o).grown hgrow6 (by simp; omega) (fun k hk => Nat.le_trans hb (hO.lt k hk).1)

/-- two digits a limb -/
def jnd (ds : List Nat) (k : Nat) : List Nat := (List.range k).map fun j => lm ds (2 * j) + 65536 * lm ds (2 * j + 1)
theorem jnd_length (ds : List Nat) (k : Nat) : (jnd ds k).length = k := by simp [jnd]
theorem jnd_succ (ds : List Nat) (k : Nat) : jnd ds (k + 1) = jnd ds k ++ [lm ds (2 * k) + 65536 * lm ds (2 * k + 1)] := by simp [jnd, List.range_succ]
theorem dlm_lt {ds : List Nat} (h : D.Ok ds) (i : Nat) : lm ds i < 65536 := h.at i
theorem jnd_ok {ds : List Nat} (h : D.Ok ds) (k : Nat) : Ok (jnd ds k) := by
  intro x hx
  obtain ⟨j, _, rfl⟩ := List.mem_map.1 hx
  have h1 := dlm_lt h (2 * j)
  have h2 := dlm_lt h (2 * j + 1)
  unfold BB; omega
theorem dtake_succ (ds : List Nat) (k : Nat) : D.val (ds.take (k + 1)) = D.val (ds.take k) + 65536 ^ k * lm ds k := by
  by_cases h : k < ds.length
  · exact D.take_succ_val ds k h
  · rw [List.take_of_length_le (by omega), List.take_of_length_le (by omega), lm_over _ _ (by omega)]; simp
theorem bb_pow (k : Nat) : BB ^ k = 65536 ^ (2 * k) := by rw [Nat.pow_mul]; rfl
theorem jnd_val (ds : List Nat) (k : Nat) : val (jnd ds k) = D.val (ds.take (2 * k)) := by
  induction k with
  | zero => rfl
  | succ k ih =>
    rw [jnd_succ, val_append, jnd_length, ih, show 2 * (k + 1) = 2 * k + 1 + 1 from by omega, dtake_succ, dtake_succ, bb_pow, Nat.pow_succ]
    simp only [val, Nat.mul_zero, Nat.add_zero]
    rw [Nat.mul_add, Nat.add_assoc, Nat.mul_assoc]
theorem dlim_last {n : Nat} (h : 0 < (D.lim n).length) : lm (D.lim n) ((D.lim n).length - 1) ≠ 0 := by
  revert h
  refine D.lim_ind (p := fun n => 0 < (D.lim n).length → lm (D.lim n) ((D.lim n).length - 1) ≠ 0) (fun h => by simp [D.lim_zero] at h) (fun n hn ih _ => ?_) n
  rw [D.lim_pos hn]
  by_cases h0 : D.lim (n / D.BB) = []
  · rw [h0]
    have hz : n / D.BB = 0 := by rw [← D.val_lim (n / D.BB), h0]; rfl
    have : n % D.BB = n := Nat.mod_eq_of_lt ((Nat.div_eq_zero_iff_lt D.BB_pos).1 hz)
    simp [lm, this]; omega
  · have hp : 0 < (D.lim (n / D.BB)).length := List.length_pos_iff.2 h0
    have := ih hp
    obtain ⟨m, hm⟩ : ∃ m, (D.lim (n / D.BB)).length = m + 1 := ⟨_, (Nat.succ_pred_eq_of_pos hp).symm⟩
    rw [List.length_cons, hm] 
    rw [hm] at this
    simpa [lm] using this
theorem jnd_lim {n k : Nat} (h1 : (D.lim n).length ≤ 2 * k) (h2 : 2 * k ≤ (D.lim n).length + 1) : jnd (D.lim n) k = lim n := by
  have hv : val (jnd (D.lim n) k) = n := by rw [jnd_val, List.take_of_length_le h1, D.val_lim]
  have := lim_val (jnd_ok (D.ok_lim n) k) (fun x hx => ?_)
  · rw [← this, hv]
  · cases k with
    | zero => simp [jnd] at hx
    | succ k =>
      rw [jnd_succ, List.getLast?_concat] at hx
      simp only [Option.some.injEq] at hx
      subst hx
      have hp : 0 < (D.lim n).length := by omega
      have hl := dlim_last hp
      by_cases e : (D.lim n).length = 2 * k + 1
      · rw [e, show 2 * k + 1 - 1 = 2 * k from by omega] at hl; omega
      · have e' : (D.lim n).length = 2 * k + 2 := by omega
        rw [e', show 2 * k + 2 - 1 = 2 * k + 1 from by omega] at hl; omega

end Go.Proofs.YtdafdfgkfkanjaaDoor

namespace Go.Proofs.YtdafdfgkfkanjaaDoor
open Go.RowKit

set_option maxRecDepth 100000 in
set_option maxHeartbeats 1000000 in
theorem ilimbs_any (v : Value) (z : Int) (w : World) (h : IntAt w v z) (hl : (lim z.natAbs).length ≤ 1000000000) :
    Calls Tryd.prog 43 #[v] w fun e w' => ∃ l, e = .returned (.tuple #[.bool (decide (z < 0)), l]) ∧ Nums w' l (lim z.natAbs) ∧ Below w.heap.size w w' := by
  obtain ⟨b, n, a, c, rfl, hn, rfl, h0⟩ := h
  have hb : decide (sg b n < 0) = b := by
    cases b with
    | true => have : n ≠ 0 := fun e => absurd (h0 e) (by decide)
              rw [sg_true, decide_eq_true (by omega)]
    | false => rw [sg_false, decide_eq_false (by omega)]
  rw [sg_abs] at hl ⊢
  rw [hb]
  have HE := hide (boxes1 w (.bool b) (.slice a (lim n).length c))
  have HN := hide (hn.below HE.out.2)
  clear hn h0 hb
  go_enter Tryd.func43, Tryd.ntmps43
  go_wp2_with fail
  refine wp_calm (fun w' => Below w.heap.size w w' ∧ Box w' w.heap.size (.bool b) (.slice a (lim n).length c)) (fun _ => true) 7 #[false, false, false, false, false, false, false] (by kernel_rfl) rfl rfl ?_
  have HF := hide (And.intro HE.out.2.drew HE.out.1.drew)
  refine Calm.take (i := 0) (v := ?_) (a' := ?_) (l' := #[true, false, false, false, false, false, false]) (d := some 4) rfl (by kernel_rfl) (by kernel_rfl) (by kernel_rfl) (by kernel_rfl) (fun _ _ _ h => h) HF.out rfl ?_ rfl rfl ?_ ?_
  rotate_left
  · intro w' hF; clear hF; go_simp; try rfl
  rotate_left
  · simp only [Act.put]; exact rfl
  refine Calm.take (i := 1) (v := ?_) (a' := ?_) (l' := #[true, true, false, false, false, false, false]) (d := some 5) rfl (by kernel_rfl) (by kernel_rfl) (by kernel_rfl) (by kernel_rfl) (fun _ _ _ h => h) HF.out rfl ?_ rfl rfl ?_ ?_
  rotate_left
  · intro w' hF; have f10 := hF.2.cell0; have f11 := hF.2.cell1; clear hF; go_simp; try rfl
  rotate_left
  · simp only [Act.put]; exact rfl
  refine Calm.take (i := 2) (v := ?_) (a' := ?_) (l' := #[true, true, true, false, false, false, false]) (d := some 6) rfl (by kernel_rfl) (by kernel_rfl) (by kernel_rfl) (by kernel_rfl) (fun _ _ _ h => h) HF.out rfl ?_ rfl rfl ?_ ?_
  rotate_left
  · intro w' hF; clear hF; go_simp; try rfl
  rotate_left
  · simp only [Act.put]; exact rfl
  refine Calm.take (i := 3) (v := ?_) (a' := ?_) (l' := #[true, true, true, true, false, false, false]) (d := some 7) rfl (by kernel_rfl) (by kernel_rfl) (by kernel_rfl) (by kernel_rfl) (fun _ _ _ h => h) HF.out rfl ?_ rfl rfl ?_ ?_
  rotate_left
  · intro w' hF; have f10 := hF.2.cell0; have f11 := hF.2.cell1; clear hF; go_simp; try rfl
  rotate_left
  · simp only [Act.put]; exact rfl
  refine Calm.one (i := 4) (l' := #[true, true, true, true, true, false, false]) (by kernel_rfl) rfl rfl rfl fun K hK => ?_
  go_simp
  refine (norm_any _ (lim n) _ HN.out.drew hl).mono ?_
  rintro e u0 ⟨l, rfl, _, n, hb⟩
  rw [val_lim] at n
  try replace BX := hide (BX.out.step hb)
  have T1 := hide n
  clear n
  have HF' := hide (And.intro (HF.out.1.trans ((hb).mono HF.out.1.size)) (HF.out.2.step (hb)))
  refine hK _ _ (fun _ => HF'.out) ?_
  clear hK K HF hb
  have HF := hide HF'.out
  clear HF'
  refine Calm.take (i := 5) (v := ?_) (a' := ?_) (l' := #[true, true, true, true, true, true, false]) (d := some 2) rfl (by kernel_rfl) (by kernel_rfl) (by kernel_rfl) (by kernel_rfl) (fun _ _ _ h => h) HF.out rfl ?_ rfl rfl ?_ ?_
  rotate_left
  · intro w' hF; clear hF; go_simp; try rfl
  rotate_left
  · simp only [Act.put]; exact rfl
  refine Calm.take (i := 6) (v := ?_) (a' := ?_) (l' := #[true, true, true, true, true, true, true]) (d := some 3) rfl (by kernel_rfl) (by kernel_rfl) (by kernel_rfl) (by kernel_rfl) (fun _ _ _ h => h) HF.out rfl ?_ rfl rfl ?_ ?_
  rotate_left
  · intro w' hF; clear hF; go_simp; try rfl
  rotate_left
  · simp only [Act.put]; exact rfl
  refine Calm.done (by kernel_rfl) ?_
  go_wp2
  go_ret2
  exact ⟨l, rfl, T1.out, HF.out.1⟩

end Go.Proofs.YtdafdfgkfkanjaaDoor

namespace Go.Proofs.YtdafdfgkfkanjaaDoor
open Go.RowKit

end Go.Proofs.YtdafdfgkfkanjaaDoor

namespace Go.Proofs.YtdafdfgkfkanjaaDoor
open Go.RowKit

set_option maxRecDepth 100000 in
theorem rsign_any (v : Value) (z : Int) (w : World) (h : RInt w v z) :
    Calls Tryd.prog 46 #[v] w fun e w' => e = .returned (.int .i64 (sgnI z)) ∧ Below w.heap.size w w' := by
  obtain ⟨b, n, a, c, rfl, hn, rfl, h0⟩ := h
  by_cases hp : n = 0
  · subst hp
    have : b = false := h0 rfl
    subst this
    have e : sgnI (sg false 0) = 0 := rfl
    rw [e]
    have e2 : (D.lim 0).length = 0 := rfl
    rw [e2]
    clear hn h0
    go_enter Tryd.func46, Tryd.ntmps46
    go_wp2
    go_ret
    exact ⟨rfl, below_alloc _ _⟩
  · have hp' : 0 < (D.lim n).length := by rw [D.lim_pos (by omega)]; simp
    clear hn h0
    cases b with
    | true =>
      rw [show sgnI (sg true n) = -1 from if_pos (by rw [sg_true]; omega)]
      go_enter Tryd.func46, Tryd.ntmps46
      go_wp2
      go_ret
      exact ⟨rfl, below_alloc _ _⟩
    | false =>
      rw [show sgnI (sg false n) = 1 from by unfold sgnI; rw [if_neg (by rw [sg_false]; omega), if_neg (by rw [sg_false]; omega)]]
      go_enter Tryd.func46, Tryd.ntmps46
      go_wp2
      go_ret
      exact ⟨rfl, below_alloc _ _⟩


theorem dval_lt_of_top : ∀ {xs ys : List Nat} {k : Nat}, xs.length = ys.length → D.Ok xs → D.Ok ys → k < xs.length → lm xs k < lm ys k → (∀ j, k + 1 ≤ j → lm xs j = lm ys j) → D.val xs < D.val ys := by
  intro xs
  induction xs with
  | nil => intro ys k _ _ _ h; simp at h
  | cons x xs ih =>
    intro ys k hl ho1 ho2 hk hlt htop
    cases ys with
    | nil => simp at hl
    | cons y ys =>
      have hx := ho1.head
      have hy := ho2.head
      simp only [D.val]
      cases k with
      | zero =>
        have he : xs = ys := lists_eq (by simpa using hl) (fun i _ => by simpa [lm] using htop (i + 1) (by omega))
        subst he
        have : x < y := by simpa [lm] using hlt
        omega
      | succ k =>
        have h1 : D.val xs < D.val ys := ih (k := k) (by simpa using hl) ho1.tail ho2.tail (by simpa using hk) (by simpa [lm] using hlt) (fun j hj => by simpa [lm] using htop (j + 1) (by omega))
        have h2 : D.BB * (D.val xs + 1) ≤ D.BB * D.val ys := Nat.mul_le_mul_left _ h1
        rw [Nat.mul_add, Nat.mul_one] at h2
        omega

set_option maxRecDepth 100000 in
set_option maxHeartbeats 1000000 in
theorem rsize_any (v1 v2 : Value) (m n : Nat) (w : World) (h1 : Nums w v1 (D.lim m)) (h2 : Nums w v2 (D.lim n)) :
    Calls Tryd.prog 65 #[v1, v2] w fun e w' => e = .returned (.int .i64 (cmpI m n)) ∧ Below w.heap.size w w' := by
  have HM := hide (D.val_lim m)
  have HN := hide (D.val_lim n)
  have HO1 := hide (D.ok_lim m)
  have HO2 := hide (D.ok_lim n)
  obtain ⟨ho1, a1, c1, rfl, hl1, hm1, hc1⟩ := h1
  obtain ⟨ho2, a2, c2, rfl, hl2, hm2, hc2⟩ := h2
  have HC1 := hide hc1
  have HC2 := hide hc2
  have HLL : Hid ((D.lim m).length < (D.lim n).length → m < n) := fun h => D.lim_len_lt h
  have HGG : Hid ((D.lim n).length < (D.lim m).length → n < m) := fun h => D.lim_len_lt h
  clear hc1 hc2 ho1 ho2
  unfold maxLen at hm1 hm2
  generalize D.lim m = L1 at *
  generalize D.lim n = L2 at *
  by_cases hA : L1.length < L2.length
  · rw [show cmpI m n = -1 from cmpI_lt (HLL.out hA)]
    have hne : (((L1.length : Nat) : Int) != ((L2.length : Nat) : Int)) = true := by simp; omega
    go_enter Tryd.func65, Tryd.ntmps65
    go_wp2
    go_ret
    exact ⟨rfl, Below.refl _ _⟩
  · by_cases hB : L2.length < L1.length
    · rw [show cmpI m n = 1 from cmpI_gt (HGG.out hB)]
      have hne : (((L1.length : Nat) : Int) != ((L2.length : Nat) : Int)) = true := by simp; omega
      go_enter Tryd.func65, Tryd.ntmps65
      go_wp2
      go_ret
      exact ⟨rfl, Below.refl _ _⟩
    · have HE : Hid (L1.length = L2.length) := by show L1.length = L2.length; omega
      have hne : (((L1.length : Nat) : Int) != ((L2.length : Nat) : Int)) = false := by simp; omega
      go_enter Tryd.func65, Tryd.ntmps65
      go_wp2
      go_loopw [5] (fun i wr => ∃ k : Nat, k ≤ L1.length ∧ i = .int .i64 ((k : Int) - 1) ∧ (∀ j, k ≤ j → lm L1 j = lm L2 j) ∧ Below w.heap.size w wr) (fun i _ => (intOf i + 1).toNat)
      case atStart => exact ⟨L1.length, Nat.le_refl _, by go_num, fun j hj => by rw [lm_over _ _ hj, lm_over _ _ (by have := HE.out; omega)], Below.refl _ _⟩
      case round =>
        obtain ⟨k, hk, rfl, hag, hbel⟩ := hrel
        have HA : Hid (∀ j, k ≤ j → lm L1 j = lm L2 j) := hag
        clear hag
        cases k with
        | zero =>
          go_wp2
          go_ret
          have hxy : L1 = L2 := lists_eq HE.out (fun i _ => HA.out i (Nat.zero_le _))
          have : m = n := by rw [← HM.out, ← HN.out, hxy]
          exact ⟨by subst this; rw [cmpI_eq]; rfl, hbel⟩
        | succ k =>
          have hk2 : k < L1.length := by omega
          have hk3 : k < L2.length := by omega
          obtain ⟨b1, o1, rfl, hx⟩ := HC1.out (ne_nil hk2)
          obtain ⟨b2, o2, rfl, hy⟩ := HC2.out (ne_nil hk3)
          have hx' : wr.cell? ⟨b1, o1 + k, none⟩ = some (.int .u32 (lm L1 k : Nat)) := by rw [hbel.cell (World.block_lt_of_cell? w _ (hx k hk2))]; exact hx k hk2
          have hy' : wr.cell? ⟨b2, o2 + k, none⟩ = some (.int .u32 (lm L2 k : Nat)) := by rw [hbel.cell (World.block_lt_of_cell? w _ (hy k hk3))]; exact hy k hk3
          clear hx hy HC1 HC2
          by_cases hlt : lm L1 k < lm L2 k
          · have hlt' : ((lm L1 k : Nat) : Int) < ((lm L2 k : Nat) : Int) := by omega
            go_wp2
            go_quiet (fail)
            go_wp2
            go_ret
            have : m < n := by rw [← HM.out, ← HN.out]; exact dval_lt_of_top HE.out HO1.out HO2.out hk2 hlt HA.out
            exact ⟨by rw [cmpI_lt this]; rfl, below_drewN hbel _⟩
          · by_cases hgt : lm L2 k < lm L1 k
            · have hlt' : ¬ ((lm L1 k : Nat) : Int) < ((lm L2 k : Nat) : Int) := by omega
              have hgt' : ((lm L2 k : Nat) : Int) < ((lm L1 k : Nat) : Int) := by omega
              go_wp2
              go_quiet (fail)
              go_wp2
              go_quiet (fail)
              go_wp2
              go_ret
              have h3 : n < m := by rw [← HM.out, ← HN.out]; exact dval_lt_of_top HE.out.symm HO2.out HO1.out hk3 hgt (fun j hj => (HA.out j hj).symm)
              exact ⟨by rw [cmpI_gt h3]; rfl, by first | exact below_drewN hbel _ | exact below_drewN (below_drewN hbel _) _⟩
            · have HEK : Hid (lm L1 k = lm L2 k) := by show lm L1 k = lm L2 k; omega
              have hlt' : ¬ ((lm L1 k : Nat) : Int) < ((lm L2 k : Nat) : Int) := by omega
              have hgt' : ¬ ((lm L2 k : Nat) : Int) < ((lm L1 k : Nat) : Int) := by omega
              go_wp2
              go_quiet (fail)
              go_wp2
              go_quiet (fail)
              go_wp2
              go_roundw
              case rel => exact ⟨k, by omega, by go_num, fun j hj => by rcases Nat.lt_or_eq_of_le hj with h | rfl; exact HA.out j h; exact HEK.out, by first | exact below_drewN hbel _ | exact below_drewN (below_drewN hbel _) _⟩
              case measure => simp [intOf]

theorem sgn_neg {z : Int} (h : sgnI z < 0) : z < 0 := by
  unfold sgnI at h
  split at h
  · assumption
  · split at h <;> omega
theorem sgn_nonneg {z : Int} (h : ¬ sgnI z < 0) : ¬ z < 0 := fun k => h (by unfold sgnI; rw [if_pos k]; decide)
theorem cmp_signs_lt {x y : Int} (h : sgnI x < sgnI y) : cmpZ x y = -1 := by
  refine cmpZ_lt ?_
  unfold sgnI at h
  split at h <;> split at h <;> (try split at h) <;> (try split at h) <;> omega
theorem cmp_signs_gt {x y : Int} (h : sgnI y < sgnI x) : cmpZ x y = 1 := by
  refine cmpZ_gt ?_
  unfold sgnI at h
  split at h <;> split at h <;> (try split at h) <;> (try split at h) <;> omega
theorem sg_pos {b : Bool} {n : Nat} (h : ¬ sg b n < 0) (h0 : n = 0 → b = false) : b = false := by
  cases b with
  | false => rfl
  | true => rcases Nat.eq_zero_or_pos n with e | e
            · exact h0 e
            · exact absurd (by rw [sg_true]; omega) h
theorem sg_minus {b : Bool} {n : Nat} (h : sg b n < 0) : b = true := by
  cases b with
  | true => rfl
  | false => rw [sg_false] at h; omega

set_option maxRecDepth 100000 in
set_option maxHeartbeats 1000000 in
theorem rcmp_any (v1 v2 : Value) (x y : Int) (w : World) (h1 : RInt w v1 x) (h2 : RInt w v2 y) :
    Calls Tryd.prog 67 #[v1, v2] w fun e w' => e = .returned (.int .i64 (cmpZ x y)) ∧ Below w.heap.size w w' := by
  have I1 := hide h1
  have I2 := hide h2
  obtain ⟨b1, n1, a1, c1, rfl, hn1, e1, h01⟩ := h1
  obtain ⟨b2, n2, a2, c2, rfl, hn2, e2, h02⟩ := h2
  have HE := hide (nboxes2 54 w (.bool b1) (.slice a1 (D.lim n1).length c1) (.bool b2) (.slice a2 (D.lim n2).length c2))
  replace I1 := hide (I1.out.below HE.out.2.2)
  replace I2 := hide (I2.out.below HE.out.2.2)
  have HN1 := hide (hn1.below HE.out.2.2)
  have HN2 := hide (hn2.below HE.out.2.2)
  have HZ := hide (And.intro (And.intro e1 h01) (And.intro e2 h02))
  clear hn1 hn2 h01 h02 e1 e2
  go_enter Tryd.func67, Tryd.ntmps67
  go_wp2_with fail
  refine wp_calm (fun w' => Below w.heap.size w w' ∧ Box2 w' w.heap.size 54 (.bool b1) (.slice a1 (D.lim n1).length c1) ∧ Box2 w' (w.heap.size + 1) 54 (.bool b2) (.slice a2 (D.lim n2).length c2)) (fun _ => true) 6 #[false, false, false, false, false, false] (by kernel_rfl) rfl rfl ?_
  have HF := hide (And.intro HE.out.2.2.drew (And.intro HE.out.1.drew HE.out.2.1.drew))
  refine Calm.take (i := 0) (v := ?_) (a' := ?_) (l' := #[true, false, false, false, false, false]) (d := some 7) rfl (by kernel_rfl) (by kernel_rfl) (by kernel_rfl) (by kernel_rfl) (fun _ _ _ h => h) HF.out rfl ?_ rfl rfl ?_ ?_
  rotate_left
  · intro w' hF; have f10 := hF.2.1.cell0; have f11 := hF.2.1.cell1; have f20 := hF.2.2.cell0; have f21 := hF.2.2.cell1; clear hF; go_simp; try rfl
  rotate_left
  · simp only [Act.put]; exact rfl
  refine Calm.take (i := 2) (v := ?_) (a' := ?_) (l' := #[true, false, true, false, false, false]) (d := some 9) rfl (by kernel_rfl) (by kernel_rfl) (by kernel_rfl) (by kernel_rfl) (fun _ _ _ h => h) HF.out rfl ?_ rfl rfl ?_ ?_
  rotate_left
  · intro w' hF; have f10 := hF.2.1.cell0; have f11 := hF.2.1.cell1; have f20 := hF.2.2.cell0; have f21 := hF.2.2.cell1; clear hF; go_simp; try rfl
  rotate_left
  · simp only [Act.put]; exact rfl
  refine Calm.one (i := 1) (l' := #[true, true, true, false, false, false]) (by kernel_rfl) rfl rfl rfl fun K hK => ?_
  go_simp
  refine (rsign_any _ x _ I1.out.drew).mono ?_
  rintro e u0 ⟨rfl, hb⟩
  replace I2 := hide (I2.out.drew.below hb)
  replace HN1 := hide (HN1.out.drew.below hb)
  replace HN2 := hide (HN2.out.drew.below hb)
  try replace BX := hide (BX.out.step hb)
  have HF' := hide (And.intro (HF.out.1.trans ((hb).mono HF.out.1.size)) (And.intro (HF.out.2.1.step (hb)) (HF.out.2.2.step (hb))))
  refine hK _ _ (fun _ => HF'.out) ?_
  clear hK K HF hb
  have HF := hide HF'.out
  clear HF'
  refine Calm.one (i := 3) (l' := #[true, true, true, true, false, false]) (by kernel_rfl) rfl rfl rfl fun K hK => ?_
  go_simp
  refine (rsign_any _ y _ I2.out).mono ?_
  rintro e u1 ⟨rfl, hb⟩
  replace I2 := hide (I2.out.below hb)
  replace HN1 := hide (HN1.out.below hb)
  replace HN2 := hide (HN2.out.below hb)
  try replace BX := hide (BX.out.step hb)
  have HF' := hide (And.intro (HF.out.1.trans ((hb).mono HF.out.1.size)) (And.intro (HF.out.2.1.step (hb)) (HF.out.2.2.step (hb))))
  refine hK _ _ (fun _ => HF'.out) ?_
  clear hK K HF hb
  have HF := hide HF'.out
  clear HF'
  refine Calm.take (i := 4) (v := ?_) (a' := ?_) (l' := #[true, true, true, true, true, false]) (d := some 5) rfl (by kernel_rfl) (by kernel_rfl) (by kernel_rfl) (by kernel_rfl) (fun _ _ _ h => h) HF.out rfl ?_ rfl rfl ?_ ?_
  rotate_left
  · intro w' hF; clear hF; go_simp; try rfl
  rotate_left
  · simp only [Act.put]; exact rfl
  refine Calm.take (i := 5) (v := ?_) (a' := ?_) (l' := #[true, true, true, true, true, true]) (d := some 6) rfl (by kernel_rfl) (by kernel_rfl) (by kernel_rfl) (by kernel_rfl) (fun _ _ _ h => h) HF.out rfl ?_ rfl rfl ?_ ?_
  rotate_left
  · intro w' hF; clear hF; go_simp; try rfl
  rotate_left
  · simp only [Act.put]; exact rfl
  refine Calm.done (by kernel_rfl) ?_
  have hx0 := HF.out.2.1.cell0
  have hx1 := HF.out.2.1.cell1
  have hy0 := HF.out.2.2.cell0
  have hy1 := HF.out.2.2.cell1
  have HLT := hide (@cmp_signs_lt x y)
  have HGT := hide (@cmp_signs_gt x y)
  have HNG := hide (@sgn_neg x)
  have HNN := hide (@sgn_nonneg x)
  have HNY := hide (@sgn_neg y)
  have HNZ := hide (@sgn_nonneg y)
  generalize sgnI x = p at *
  generalize sgnI y = q at *
  by_cases hA : p < q
  · have hne : (p != q) = true := by simp; omega
    go_wp2
    go_ret
    exact ⟨by rw [HLT.out hA]; rfl, HF.out.1⟩
  · by_cases hB : q < p
    · have hne : (p != q) = true := by simp; omega
      go_wp2
      go_ret
      exact ⟨by rw [HGT.out hB]; rfl, HF.out.1⟩
    · have hpq : p = q := by omega
      subst hpq
      by_cases hC : p < 0
      · have hX := HNG.out hC
        have hY := HNY.out hC
        obtain ⟨⟨e1, _⟩, e2, _⟩ := HZ.out
        have hb1 : b1 = true := sg_minus (n := n1) (by rw [← e1]; exact hX)
        have hb2 : b2 = true := sg_minus (n := n2) (by rw [← e2]; exact hY)
        have HCZ : Hid (cmpZ x y = cmpI n2 n1) := hide (by rw [e1, e2, hb1, hb2, cmpZ_tt])
        clear hX hY e1 e2 hb1 hb2
        go_wp2_with fail
        refine (rsize_any _ _ n2 n1 _ HN2.out HN1.out).mono ?_
        rintro e w3 ⟨rfl, hb3⟩
        have HB3 := hide (HF.out.1.trans (hb3.mono HF.out.1.size))
        clear hb3
        go_wp2
        go_ret
        exact ⟨by rw [HCZ.out]; rfl, HB3.out⟩
      · have hX := HNN.out hC
        have hY := HNZ.out hC
        obtain ⟨⟨e1, k1⟩, e2, k2⟩ := HZ.out
        have hb1 : b1 = false := sg_pos (n := n1) (by rw [← e1]; exact hX) k1
        have hb2 : b2 = false := sg_pos (n := n2) (by rw [← e2]; exact hY) k2
        have HCZ : Hid (cmpZ x y = cmpI n1 n2) := hide (by rw [e1, e2, hb1, hb2, cmpZ_nn])
        clear hX hY e1 e2 hb1 hb2 k1 k2
        go_wp2_with fail
        refine (rsize_any _ _ n1 n2 _ HN1.out HN2.out).mono ?_
        rintro e w3 ⟨rfl, hb3⟩
        have HB3 := hide (HF.out.1.trans (hb3.mono HF.out.1.size))
        clear hb3
        go_wp2
        go_ret
        exact ⟨by rw [HCZ.out]; rfl, HB3.out⟩
end Go.Proofs.YtdafdfgkfkanjaaDoor

namespace Go.Proofs.YtdafdfgkfkanjaaDoor
open Go.RowKit

theorem ret_both {fn : Func} {R : Ending → World → Prop} {a : Act} {w : World} {p q : Tmp} (h : fn.results = #[.cell p 51, .cell q 54]) (g g' : Nat) (x y x' y' : Value)
    (hp : a.tmps.getD p undef = .pointer (some ⟨g, 0, none⟩)) (hq : a.tmps.getD q undef = .pointer (some ⟨g', 0, none⟩)) (hg : Box w g x y) (hg' : Box2 w g' 54 x' y') (hd : a.defers = []) (hR : R (.returned (.tuple #[.agg #[x, y], .agg #[x', y']])) w) : bodyPost Tryd.prog fn R .ret a w := by
  refine bodyPost_ret ?_ hd hR
  have hp' : a.tmps[p]?.getD undef = .pointer (some ⟨g, 0, none⟩) := by simpa using hp
  have hq' : a.tmps[q]?.getD undef = .pointer (some ⟨g', 0, none⟩) := by simpa using hq
  simp [results, h, hp', hq', asAddr, run_loadVar_row w g 51 51 #[x, y] (0, 0) _ hg Tryd.underlying51 rfl Tryd.infoInt, run_loadVar_row w g' 54 54 #[x', y'] (0, 0) _ hg' Tryd.underlying54 rfl Tryd.infoRef]

end Go.Proofs.YtdafdfgkfkanjaaDoor

namespace Go.Proofs.YtdafdfgkfkanjaaDoor
open Go.RowKit

/-- a number's digits so far, and what is left of it -/
structure OfAt (A u : Nat) (acc : List Nat) : Prop where
  ok : D.Ok acc
  len : acc.length ≤ 4
  lt : u < 65536 ^ (4 - acc.length)
  sum : D.val acc + 65536 ^ acc.length * u = A
theorem OfAt.start (A : Nat) (h : A < 18446744073709551616) : OfAt A A [] := ⟨D.Ok.nil, by simp, by simpa using h, by simp [D.val]⟩
theorem OfAt.less {A u : Nat} {acc : List Nat} (h : OfAt A u acc) (hu : 0 < u) : acc.length < 4 := by
  rcases Nat.lt_or_ge acc.length 4 with k | k
  · exact k
  · have := h.lt; rw [show 4 - acc.length = 0 from by omega] at this; simp at this; omega
theorem OfAt.step {A u : Nat} {acc : List Nat} (h : OfAt A u acc) (hu : 0 < u) : OfAt A (u / 65536) (acc ++ [u % 65536]) := by
  have hl := h.less hu
  refine ⟨h.ok.append (D.Ok.cons (Nat.mod_lt _ (by decide)) D.Ok.nil), by simp; omega, ?_, ?_⟩
  · have := h.lt
    rw [List.length_append, List.length_singleton, Nat.div_lt_iff_lt_mul (by decide), ← Nat.pow_succ, show (4 - (acc.length + 1)).succ = 4 - acc.length from by omega]
    exact this
  · rw [D.val_append, ← h.sum, List.length_append, List.length_singleton, Nat.pow_succ]
    simp only [D.val, Nat.mul_zero, Nat.add_zero]
    show D.val acc + 65536 ^ acc.length * (u % 65536) + 65536 ^ acc.length * 65536 * (u / 65536) = _
    rw [Nat.mul_assoc, Nat.add_assoc, ← Nat.mul_add, Nat.mod_add_div]

set_option maxRecDepth 100000 in
set_option maxHeartbeats 2000000 in
theorem rof_any (z : Int) (w : World) (hlo : -9223372036854775808 ≤ z) (hhi : z ≤ 9223372036854775807) :
    Calls Tryd.prog 49 #[.int .i64 z] w fun e w' => ∃ v, e = .returned v ∧ RInt w' v z ∧ Below w.heap.size w w' := by
  obtain ⟨i0, hi, hz0, hz1, hz2⟩ := info_parts Tryd.info74
  have HL := hide hlo
  have HH := hide hhi
  obtain ⟨A, hA⟩ : ∃ A, A = z.natAbs := ⟨_, rfl⟩
  have HA := hide hA
  have HAB : Hid (A < 18446744073709551616) := hide (by omega)
  clear hA
  by_cases neg : z < 0
  · have HNG := hide neg
    have huA : IntKind.u64.wrap (-IntKind.u64.wrap z) = (A : Int) := by rw [HA.out, IntKind.wrap_u64, IntKind.wrap_u64]; omega
    go_enter Tryd.func49, Tryd.ntmps49
    go_wp2
    clear huA
    go_loopw [3, 4] (fun uv dv wr => ∃ (u : Nat) (acc : List Nat), uv = .int .u64 u ∧ u < 18446744073709551616 ∧ OfAt A u acc ∧ Own wr (w.heap.size + 1) dv acc ∧ Below (w.heap.size + 1) (w.alloc (.cells #[.bool false, .slice none 0 0] 54)) wr) (fun uv _ _ => (intOf uv).toNat)
    case atStart => exact ⟨A, [], rfl, HAB.out, OfAt.start A HAB.out, World.ownsRow_nil _ _ _ _, Below.refl _ _⟩
    case round =>
      obtain ⟨u, acc, rfl, hub, hat, hO, hbel⟩ := hrel
      have HAT := hide hat
      have HO := hide hO
      have HBE := hide hbel
      clear hat hO hbel
      by_cases hu : 0 < u
      · have hln := HAT.out.less hu
        have hbs := HBE.out.size
        rw [World.size_alloc] at hbs
        have huI : (u : Int) < 18446744073709551616 := by omega
        have HUB := hide hub
        clear hub
        go_wp2_with (at_builtin; refine wpList_append_own _ rfl _ _ 47 rfl (w.heap.size + 1) 74 i0 (.int .u32 0) 1 4 Tryd.underlying47 hi hz0 hz1 hz2 rfl (by decide) _ _ _ rfl (World.ownsRow.alloc HO.out _) ⟨_, 0, none⟩ 1 1 [.int .u32 (((u : Int) % 65536))] rfl rfl ?_ ?_ ?_ ?_ ?_ ?_)
        · intro i u hi'
          match i, hi' with
          | 0, hi' => simp at hi'; subst hi'; simp [Addr.add]
        · intro u hu; simp at hu; subst hu; rfl
        · unfold maxLen; omega
        · omega
        · simp; omega
        · intro v6 w6 hown6 hgrow6 _
          obtain ⟨hO6, hB6⟩ := own_step (n := u % 65536) (by omega) HO.out hown6 hgrow6 HBE.out hbs (Nat.le_refl _)
          have HO6 := hide hO6
          have HB6 := hide hB6
          clear hown6 hgrow6 hO6 hB6
          go_wp2
          go_roundw
          case rel => exact ⟨u / 65536, _, congrArg (Value.int .u64) (by omega), by have := HUB.out; omega, HAT.out.step hu, HO6.out, HB6.out⟩
          case measure => simp [intOf]; omega
      · have e : u = 0 := by omega
        subst e
        have HR := hide ((Box2.new w _ _ _).below HBE.out (Nat.lt_succ_self _))
        have HNd := hide (HO.out.nums (dok HAT.out.ok))
        have HB1 := hide ((below_alloc w _).trans (HBE.out.mono (Nat.le_succ _)))
        have HV : Hid (D.val acc = A) := hide (by have := HAT.out.sum; simpa using this)
        go_wp2_with fail
        refine (rnorm2_any true _ acc _ HNd.out HAT.out.ok).mono ?_
        rintro e w2 ⟨v2, rfl, hr2, hb2⟩
        rw [HV.out] at hr2
        obtain ⟨b', n', a', c', rfl, hn', he, h0⟩ := hr2
        replace HR := hide (HR.out.step hb2)
        replace HB1 := hide (HB1.out.trans (hb2.mono HB1.out.size))
        have hc0 := HR.out.cell0
        have hc1 := HR.out.cell1
        have hf0 := HR.out.free 0
        have hf1 := HR.out.free 1
        clear hb2
        go_wp2
        refine ret_ref rfl w.heap.size _ _ _ _ rfl ((HR.out.set0 _).set1 _) rfl ?_
        exact ⟨_, rfl, ⟨b', n', a', c', rfl, keeps2 HR.out (by simp) (by simp) _ _ _ _ hn', by rw [← he]; have := HA.out; have := HNG.out; rw [sg_true]; omega, h0⟩, (HB1.out.setCell (p := ⟨w.heap.size, 0, none⟩) (Nat.le_refl _) _).setCell (p := ⟨w.heap.size, 1, none⟩) (Nat.le_refl _) _⟩
  · have HNG := hide neg
    have huA : z = (A : Int) := by have := HA.out; omega
    subst huA
    go_enter Tryd.func49, Tryd.ntmps49
    go_wp2
    go_loopw [3, 4] (fun uv dv wr => ∃ (u : Nat) (acc : List Nat), uv = .int .u64 u ∧ u < 18446744073709551616 ∧ OfAt A u acc ∧ Own wr (w.heap.size + 1) dv acc ∧ Below (w.heap.size + 1) (w.alloc (.cells #[.bool false, .slice none 0 0] 54)) wr) (fun uv _ _ => (intOf uv).toNat)
    case atStart => exact ⟨A, [], rfl, HAB.out, OfAt.start A HAB.out, World.ownsRow_nil _ _ _ _, Below.refl _ _⟩
    case round =>
      obtain ⟨u, acc, rfl, hub, hat, hO, hbel⟩ := hrel
      have HAT := hide hat
      have HO := hide hO
      have HBE := hide hbel
      clear hat hO hbel
      by_cases hu : 0 < u
      · have hln := HAT.out.less hu
        have hbs := HBE.out.size
        rw [World.size_alloc] at hbs
        have huI : (u : Int) < 18446744073709551616 := by omega
        have HUB := hide hub
        clear hub
        go_wp2_with (at_builtin; refine wpList_append_own _ rfl _ _ 47 rfl (w.heap.size + 1) 74 i0 (.int .u32 0) 1 4 Tryd.underlying47 hi hz0 hz1 hz2 rfl (by decide) _ _ _ rfl (World.ownsRow.alloc HO.out _) ⟨_, 0, none⟩ 1 1 [.int .u32 (((u : Int) % 65536))] rfl rfl ?_ ?_ ?_ ?_ ?_ ?_)
        · intro i u hi'
          match i, hi' with
          | 0, hi' => simp at hi'; subst hi'; simp [Addr.add]
        · intro u hu; simp at hu; subst hu; rfl
        · unfold maxLen; omega
        · omega
        · simp; omega
        · intro v6 w6 hown6 hgrow6 _
          obtain ⟨hO6, hB6⟩ := own_step (n := u % 65536) (by omega) HO.out hown6 hgrow6 HBE.out hbs (Nat.le_refl _)
          have HO6 := hide hO6
          have HB6 := hide hB6
          clear hown6 hgrow6 hO6 hB6
          go_wp2
          go_roundw
          case rel => exact ⟨u / 65536, _, congrArg (Value.int .u64) (by omega), by have := HUB.out; omega, HAT.out.step hu, HO6.out, HB6.out⟩
          case measure => simp [intOf]; omega
      · have e : u = 0 := by omega
        subst e
        have HR := hide ((Box2.new w _ _ _).below HBE.out (Nat.lt_succ_self _))
        have HNd := hide (HO.out.nums (dok HAT.out.ok))
        have HB1 := hide ((below_alloc w _).trans (HBE.out.mono (Nat.le_succ _)))
        have HV : Hid (D.val acc = A) := hide (by have := HAT.out.sum; simpa using this)
        go_wp2_with fail
        refine (rnorm2_any false _ acc _ HNd.out HAT.out.ok).mono ?_
        rintro e w2 ⟨v2, rfl, hr2, hb2⟩
        rw [HV.out] at hr2
        obtain ⟨b', n', a', c', rfl, hn', he, h0⟩ := hr2
        replace HR := hide (HR.out.step hb2)
        replace HB1 := hide (HB1.out.trans (hb2.mono HB1.out.size))
        have hc0 := HR.out.cell0
        have hc1 := HR.out.cell1
        have hf0 := HR.out.free 0
        have hf1 := HR.out.free 1
        clear hb2
        go_wp2
        refine ret_ref rfl w.heap.size _ _ _ _ rfl ((HR.out.set0 _).set1 _) rfl ?_
        exact ⟨_, rfl, ⟨b', n', a', c', rfl, keeps2 HR.out (by simp) (by simp) _ _ _ _ hn', by rw [← he, sg_false], h0⟩, (HB1.out.setCell (p := ⟨w.heap.size, 0, none⟩) (Nat.le_refl _) _).setCell (p := ⟨w.heap.size, 1, none⟩) (Nat.le_refl _) _⟩
end Go.Proofs.YtdafdfgkfkanjaaDoor

namespace Go.Proofs.YtdafdfgkfkanjaaDoor
open Go.RowKit

/-- a sum's state behind k digits -/
structure PlusAt (xs ys : List Nat) (k c : Nat) (acc : List Nat) : Prop where
  len : acc.length = k
  ok : D.Ok acc
  c1 : c ≤ 1
  sum : D.val acc + 65536 ^ k * c = D.val (xs.take k) + D.val (ys.take k)
theorem PlusAt.start (xs ys : List Nat) : PlusAt xs ys 0 0 [] := ⟨rfl, D.Ok.nil, by decide, by simp [D.val]⟩
theorem PlusAt.step {xs ys : List Nat} {k c : Nat} {acc : List Nat} (h : PlusAt xs ys k c acc) (hx : D.Ok xs) (hy : D.Ok ys) : PlusAt xs ys (k + 1) ((c + lm xs k + lm ys k) / 65536) (acc ++ [(c + lm xs k + lm ys k) % 65536]) := by
  have h1 := dlm_lt hx k
  have h2 := dlm_lt hy k
  have h3 := h.c1
  refine ⟨by rw [List.length_append, h.len]; rfl, h.ok.append (D.Ok.cons (Nat.mod_lt _ (by decide)) D.Ok.nil), by omega, ?_⟩
  rw [D.val_append, h.len, dtake_succ, dtake_succ, Nat.pow_succ]
  simp only [D.val, Nat.mul_zero, Nat.add_zero]
  show D.val acc + 65536 ^ k * ((c + lm xs k + lm ys k) % 65536) + 65536 ^ k * 65536 * ((c + lm xs k + lm ys k) / 65536) = _
  have e := Nat.mod_add_div (c + lm xs k + lm ys k) 65536
  have e1 : 65536 ^ k * ((c + lm xs k + lm ys k) % 65536) + 65536 ^ k * 65536 * ((c + lm xs k + lm ys k) / 65536) = 65536 ^ k * c + 65536 ^ k * lm xs k + 65536 ^ k * lm ys k := by
    rw [Nat.mul_assoc, ← Nat.mul_add, e, Nat.mul_add, Nat.mul_add]
  have := h.sum
  omega
theorem PlusAt.last {xs ys : List Nat} {k : Nat} {acc : List Nat} (h : PlusAt xs ys k 0 acc) (h1 : xs.length ≤ k) (h2 : ys.length ≤ k) : D.val acc = D.val xs + D.val ys := by
  have := h.sum
  rw [List.take_of_length_le h1, List.take_of_length_le h2] at this
  simpa using this

set_option maxRecDepth 100000 in
set_option maxHeartbeats 4000000 in
theorem rplus_any (v1 v2 : Value) (xs ys : List Nat) (w : World) (h1 : Nums w v1 xs) (h2 : Nums w v2 ys) (hx : D.Ok xs) (hy : D.Ok ys) (b1 : xs.length ≤ 100000000) (b2 : ys.length ≤ 100000000) :
    Calls Tryd.prog 68 #[v1, v2] w fun e w' => ∃ v' acc, e = .returned v' ∧ Nums w' v' acc ∧ D.Ok acc ∧ D.val acc = D.val xs + D.val ys ∧ Below w.heap.size w w' := by
  obtain ⟨i0, hi, hz0, hz1, hz2⟩ := info_parts Tryd.info74
  have HX := hide hx
  have HY := hide hy
  have HN1 := hide h1
  have HN2 := hide h2
  obtain ⟨_, a1, c1, rfl, _, hm1, _⟩ := h1
  obtain ⟨_, a2, c2, rfl, _, hm2, _⟩ := h2
  clear hx hy
  unfold maxLen at hm1 hm2
  go_enter Tryd.func68, Tryd.ntmps68
  go_wp2
  go_loopw [5, 6, 7] (fun ov cv iv wr => ∃ (k c : Nat) (acc : List Nat), k ≤ xs.length + ys.length + 1 ∧ iv = .int .i64 k ∧ cv = .int .u32 c ∧ c ≤ 1 ∧ Hid (c = 0 ∨ k ≤ xs.length ∨ k ≤ ys.length) ∧ PlusAt xs ys k c acc ∧ Own wr w.heap.size ov acc ∧ Below w.heap.size w wr) (fun _ cv iv _ => 2 * (xs.length + ys.length) + 3 - 2 * (intOf iv).toNat + (intOf cv).toNat)
  case atStart => exact ⟨0, 0, [], by omega, rfl, rfl, by omega, .inl rfl, PlusAt.start xs ys, World.ownsRow_nil _ _ _ _, Below.refl _ _⟩
  case round =>
    obtain ⟨k, c, acc, hk, rfl, rfl, hc1, HD, hat, hO, hbel⟩ := hrel
    have HAT := hide hat
    have HO := hide hO
    have HBE := hide hbel
    have hal : acc.length ≤ 200000001 := by rw [hat.len]; omega
    have hdx := dlm_lt HX.out k
    have hdy := dlm_lt HY.out k
    have hbs := hbel.size
    clear hat hO hbel
    by_cases hlx : k < xs.length
    · obtain ⟨B1, o1, rfl, hc1'⟩ : ∃ B o, a1 = some ⟨B, o, none⟩ ∧ wr.cell? ⟨B, o + k, none⟩ = some (.int .u32 (lm xs k : Nat)) := by
        obtain ⟨_, a', c', he, _, _, h3⟩ := HN1.out.below HBE.out
        simp only [Value.slice.injEq] at he
        obtain ⟨rfl, _, rfl⟩ := he
        obtain ⟨b, off, rfl, hc⟩ := h3 (ne_nil hlx)
        exact ⟨b, off, rfl, hc k hlx⟩
      by_cases hly : k < ys.length
      · obtain ⟨B2, o2, rfl, hc2'⟩ : ∃ B o, a2 = some ⟨B, o, none⟩ ∧ wr.cell? ⟨B, o + k, none⟩ = some (.int .u32 (lm ys k : Nat)) := by
          obtain ⟨_, a', c', he, _, _, h3⟩ := HN2.out.below HBE.out
          simp only [Value.slice.injEq] at he
          obtain ⟨rfl, _, rfl⟩ := he
          obtain ⟨b, off, rfl, hc⟩ := h3 (ne_nil hly)
          exact ⟨b, off, rfl, hc k hly⟩
        go_wp2_with (at_builtin; refine wpList_append_own _ rfl _ _ 47 rfl w.heap.size 74 i0 (.int .u32 0) 1 4 Tryd.underlying47 hi hz0 hz1 hz2 rfl (by decide) _ _ _ rfl (World.ownsRow.alloc HO.out _) ⟨_, 0, none⟩ 1 1 [.int .u32 (((c : Int) + (lm xs k : Int) + (lm ys k : Int)) % 65536)] rfl rfl ?_ ?_ ?_ ?_ ?_ ?_)
        · intro i u hi'
          match i, hi' with
          | 0, hi' => simp at hi'; subst hi'; simp [Addr.add]
        · intro u hu; simp at hu; subst hu; rfl
        · unfold maxLen; omega
        · omega
        · simp; omega
        · intro v6 w6 hown6 hgrow6 _
          obtain ⟨hO6, hB6⟩ := own_step (n := (c + lm xs k + lm ys k) % 65536) (by omega) HO.out hown6 hgrow6 HBE.out hbs (Nat.le_refl _)
          have HO6 := hide hO6
          have HB6 := hide hB6
          clear hown6 hgrow6 hO6 hB6
          go_wp2
          go_roundw
          case rel => exact ⟨k + 1, (c + lm xs k + lm ys k) / 65536, _, by omega, by go_num, congrArg (Value.int .u32) (by omega), by omega, .inr (.inl (by omega)), HAT.out.step HX.out HY.out, HO6.out, HB6.out⟩
          case measure => simp [intOf]; omega
      · have HZY := hide (lm_over ys k (by omega))
        go_wp2_with (at_builtin; refine wpList_append_own _ rfl _ _ 47 rfl w.heap.size 74 i0 (.int .u32 0) 1 4 Tryd.underlying47 hi hz0 hz1 hz2 rfl (by decide) _ _ _ rfl (World.ownsRow.alloc HO.out _) ⟨_, 0, none⟩ 1 1 [.int .u32 (((c : Int) + (lm xs k : Int)) % 65536)] rfl rfl ?_ ?_ ?_ ?_ ?_ ?_)
        · intro i u hi'
          match i, hi' with
          | 0, hi' => simp at hi'; subst hi'; simp [Addr.add]
        · intro u hu; simp at hu; subst hu; rfl
        · unfold maxLen; omega
        · omega
        · simp; omega
        · intro v6 w6 hown6 hgrow6 _
          obtain ⟨hO6, hB6⟩ := own_step (n := (c + lm xs k + lm ys k) % 65536) (by have := HZY.out; omega) HO.out hown6 hgrow6 HBE.out hbs (Nat.le_refl _)
          have HO6 := hide hO6
          have HB6 := hide hB6
          clear hown6 hgrow6 hO6 hB6
          go_wp2
          go_roundw
          case rel => exact ⟨k + 1, (c + lm xs k + lm ys k) / 65536, _, by omega, by go_num, congrArg (Value.int .u32) (by have := HZY.out; omega), by omega, .inr (.inl (by omega)), HAT.out.step HX.out HY.out, HO6.out, HB6.out⟩
          case measure => simp [intOf]; omega
    · by_cases hly : k < ys.length
      · obtain ⟨B2, o2, rfl, hc2'⟩ : ∃ B o, a2 = some ⟨B, o, none⟩ ∧ wr.cell? ⟨B, o + k, none⟩ = some (.int .u32 (lm ys k : Nat)) := by
          obtain ⟨_, a', c', he, _, _, h3⟩ := HN2.out.below HBE.out
          simp only [Value.slice.injEq] at he
          obtain ⟨rfl, _, rfl⟩ := he
          obtain ⟨b, off, rfl, hc⟩ := h3 (ne_nil hly)
          exact ⟨b, off, rfl, hc k hly⟩
        have HZX := hide (lm_over xs k (by omega))
        go_wp2_with (at_builtin; refine wpList_append_own _ rfl _ _ 47 rfl w.heap.size 74 i0 (.int .u32 0) 1 4 Tryd.underlying47 hi hz0 hz1 hz2 rfl (by decide) _ _ _ rfl (World.ownsRow.alloc HO.out _) ⟨_, 0, none⟩ 1 1 [.int .u32 (((c : Int) + (lm ys k : Int)) % 65536)] rfl rfl ?_ ?_ ?_ ?_ ?_ ?_)
        · intro i u hi'
          match i, hi' with
          | 0, hi' => simp at hi'; subst hi'; simp [Addr.add]
        · intro u hu; simp at hu; subst hu; rfl
        · unfold maxLen; omega
        · omega
        · simp; omega
        · intro v6 w6 hown6 hgrow6 _
          obtain ⟨hO6, hB6⟩ := own_step (n := (c + lm xs k + lm ys k) % 65536) (by have := HZX.out; omega) HO.out hown6 hgrow6 HBE.out hbs (Nat.le_refl _)
          have HO6 := hide hO6
          have HB6 := hide hB6
          clear hown6 hgrow6 hO6 hB6
          go_wp2
          go_roundw
          case rel => exact ⟨k + 1, (c + lm xs k + lm ys k) / 65536, _, by omega, by go_num, congrArg (Value.int .u32) (by have := HZX.out; omega), by omega, .inr (.inr (by omega)), HAT.out.step HX.out HY.out, HO6.out, HB6.out⟩
          case measure => simp [intOf]; omega
      · by_cases hc0 : 0 < c
        · have HZX := hide (lm_over xs k (by omega))
          have HZY := hide (lm_over ys k (by omega))
          go_wp2_with (at_builtin; refine wpList_append_own _ rfl _ _ 47 rfl w.heap.size 74 i0 (.int .u32 0) 1 4 Tryd.underlying47 hi hz0 hz1 hz2 rfl (by decide) _ _ _ rfl (World.ownsRow.alloc HO.out _) ⟨_, 0, none⟩ 1 1 [.int .u32 (((c : Int)) % 65536)] rfl rfl ?_ ?_ ?_ ?_ ?_ ?_)
          · intro i u hi'
            match i, hi' with
            | 0, hi' => simp at hi'; subst hi'; simp [Addr.add]
          · intro u hu; simp at hu; subst hu; rfl
          · unfold maxLen; omega
          · omega
          · simp; omega
          · intro v6 w6 hown6 hgrow6 _
            obtain ⟨hO6, hB6⟩ := own_step (n := (c + lm xs k + lm ys k) % 65536) (by have := HZX.out; have := HZY.out; omega) HO.out hown6 hgrow6 HBE.out hbs (Nat.le_refl _)
            have HO6 := hide hO6
            have HB6 := hide hB6
            clear hown6 hgrow6 hO6 hB6
            go_wp2
            go_roundw
            case rel => exact ⟨k + 1, (c + lm xs k + lm ys k) / 65536, _, by rcases HD.out with h | h | h <;> omega, by go_num, congrArg (Value.int .u32) (by have := HZX.out; have := HZY.out; omega), by omega, .inl (by have := HZX.out; have := HZY.out; omega), HAT.out.step HX.out HY.out, HO6.out, HB6.out⟩
            case measure => simp [intOf]; omega
        · have e : c = 0 := by omega
          subst e
          go_wp2
          go_ret
          exact ⟨_, rfl, acc, HO.out.nums (dok HAT.out.ok), HAT.out.ok, HAT.out.last (by omega) (by omega), HBE.out⟩

/-- a difference's state behind k digits -/
structure MinusAt (xs ys : List Nat) (k b : Nat) (acc : List Nat) : Prop where
  len : acc.length = k
  ok : D.Ok acc
  b1 : b ≤ 1
  sum : D.val acc + D.val (ys.take k) = D.val (xs.take k) + 65536 ^ k * b
theorem MinusAt.start (xs ys : List Nat) : MinusAt xs ys 0 0 [] := ⟨rfl, D.Ok.nil, by decide, by simp [D.val]⟩
theorem MinusAt.yes {xs ys : List Nat} {k b : Nat} {acc : List Nat} (h : MinusAt xs ys k b acc) (hx : D.Ok xs) (hy : D.Ok ys) (hlt : lm xs k < b + lm ys k) : MinusAt xs ys (k + 1) 1 (acc ++ [lm xs k + 65536 - (b + lm ys k)]) := by
  have h1 := dlm_lt hx k
  have h2 := dlm_lt hy k
  have h3 := h.b1
  refine ⟨by rw [List.length_append, h.len]; rfl, h.ok.append (D.Ok.cons (by unfold D.BB; omega) D.Ok.nil), by omega, ?_⟩
  rw [D.val_append, h.len, dtake_succ, dtake_succ, Nat.pow_succ]
  simp only [D.val, Nat.mul_zero, Nat.add_zero]
  show D.val acc + 65536 ^ k * (lm xs k + 65536 - (b + lm ys k)) + (D.val (ys.take k) + 65536 ^ k * lm ys k) = D.val (xs.take k) + 65536 ^ k * lm xs k + 65536 ^ k * 65536 * 1
  obtain ⟨d, hd⟩ : ∃ d, d + (b + lm ys k) = lm xs k + 65536 := ⟨lm xs k + 65536 - (b + lm ys k), by omega⟩
  rw [← hd, Nat.add_sub_cancel, Nat.mul_one]
  have e : 65536 ^ k * d + (65536 ^ k * b + 65536 ^ k * lm ys k) = 65536 ^ k * lm xs k + 65536 ^ k * 65536 := by rw [← Nat.mul_add, ← Nat.mul_add, hd, Nat.mul_add]
  have := h.sum
  omega
theorem MinusAt.no {xs ys : List Nat} {k b : Nat} {acc : List Nat} (h : MinusAt xs ys k b acc) (hx : D.Ok xs) (hy : D.Ok ys) (hlt : ¬ lm xs k < b + lm ys k) : MinusAt xs ys (k + 1) 0 (acc ++ [lm xs k - (b + lm ys k)]) := by
  have h1 := dlm_lt hx k
  have h2 := dlm_lt hy k
  refine ⟨by rw [List.length_append, h.len]; rfl, h.ok.append (D.Ok.cons (by unfold D.BB; omega) D.Ok.nil), by omega, ?_⟩
  rw [D.val_append, h.len, dtake_succ, dtake_succ]
  simp only [D.val, Nat.mul_zero, Nat.add_zero]
  show D.val acc + 65536 ^ k * (lm xs k - (b + lm ys k)) + (D.val (ys.take k) + 65536 ^ k * lm ys k) = D.val (xs.take k) + 65536 ^ k * lm xs k
  obtain ⟨d, hd⟩ : ∃ d, d + (b + lm ys k) = lm xs k := ⟨lm xs k - (b + lm ys k), by omega⟩
  rw [← hd, Nat.add_sub_cancel]
  have e : 65536 ^ k * d + (65536 ^ k * b + 65536 ^ k * lm ys k) = 65536 ^ k * (d + (b + lm ys k)) := by rw [← Nat.mul_add, ← Nat.mul_add]
  have := h.sum
  omega
theorem MinusAt.last {xs ys : List Nat} {b : Nat} {acc : List Nat} (h : MinusAt xs ys xs.length b acc) (hl : ys.length ≤ xs.length) (hle : D.val ys ≤ D.val xs) : D.val acc = D.val xs - D.val ys := by
  have h1 := h.sum
  rw [List.take_length, List.take_of_length_le hl] at h1
  have h2 := D.val_lt h.ok
  rw [h.len] at h2
  have h3 : D.BB ^ xs.length = 65536 ^ xs.length := rfl
  rcases Nat.le_one_iff_eq_zero_or_eq_one.1 h.b1 with e | e
  · rw [e, Nat.mul_zero] at h1; omega
  · rw [e, Nat.mul_one] at h1; omega

set_option maxRecDepth 100000 in
set_option maxHeartbeats 4000000 in
theorem rminus_own (v1 v2 : Value) (xs ys : List Nat) (w : World) (h1 : Nums w v1 xs) (h2 : Nums w v2 ys) (hx : D.Ok xs) (hy : D.Ok ys) (b1 : xs.length ≤ 100000000) (hl : ys.length ≤ xs.length) (hle : D.val ys ≤ D.val xs) :
    Calls Tryd.prog 66 #[v1, v2] w fun e w' => ∃ v' acc, e = .returned v' ∧ Own w' w.heap.size v' acc ∧ D.Ok acc ∧ D.val acc = D.val xs - D.val ys ∧ Below w.heap.size w w' := by
  obtain ⟨i0, hi, hz0, hz1, hz2⟩ := info_parts Tryd.info74
  have HX := hide hx
  have HY := hide hy
  have HLY := hide hl
  have HLE := hide hle
  have HN1 := hide h1
  have HN2 := hide h2
  obtain ⟨_, a1, c1, rfl, _, hm1, _⟩ := h1
  obtain ⟨_, a2, c2, rfl, _, hm2, _⟩ := h2
  clear hx hy hle
  unfold maxLen at hm1 hm2
  go_enter Tryd.func66, Tryd.ntmps66
  go_wp2
  go_loopw [5, 6, 7] (fun ov cv iv wr => ∃ (k c : Nat) (acc : List Nat), k ≤ xs.length ∧ iv = .int .i64 k ∧ cv = .int .u32 c ∧ c ≤ 1 ∧ MinusAt xs ys k c acc ∧ Own wr w.heap.size ov acc ∧ Below w.heap.size w wr) (fun _ _ iv _ => xs.length - (intOf iv).toNat)
  case atStart => exact ⟨0, 0, [], by omega, rfl, rfl, by omega, MinusAt.start xs ys, World.ownsRow_nil _ _ _ _, Below.refl _ _⟩
  case round =>
    obtain ⟨k, c, acc, hk, rfl, rfl, hc1, hat, hO, hbel⟩ := hrel
    have HAT := hide hat
    have HO := hide hO
    have HBE := hide hbel
    have hal : acc.length ≤ 100000001 := by rw [hat.len]; omega
    have hdx := dlm_lt HX.out k
    have hdy := dlm_lt HY.out k
    have hbs := hbel.size
    clear hat hO hbel
    by_cases hlx : k < xs.length
    · obtain ⟨B1, o1, rfl, hc1'⟩ : ∃ B o, a1 = some ⟨B, o, none⟩ ∧ wr.cell? ⟨B, o + k, none⟩ = some (.int .u32 (lm xs k : Nat)) := by
        obtain ⟨_, a', c', he, _, _, h3⟩ := HN1.out.below HBE.out
        simp only [Value.slice.injEq] at he
        obtain ⟨rfl, _, rfl⟩ := he
        obtain ⟨b, off, rfl, hc⟩ := h3 (ne_nil hlx)
        exact ⟨b, off, rfl, hc k hlx⟩
      by_cases hly : k < ys.length
      · obtain ⟨B2, o2, rfl, hc2'⟩ : ∃ B o, a2 = some ⟨B, o, none⟩ ∧ wr.cell? ⟨B, o + k, none⟩ = some (.int .u32 (lm ys k : Nat)) := by
          obtain ⟨_, a', c', he, _, _, h3⟩ := HN2.out.below HBE.out
          simp only [Value.slice.injEq] at he
          obtain ⟨rfl, _, rfl⟩ := he
          obtain ⟨b, off, rfl, hc⟩ := h3 (ne_nil hly)
          exact ⟨b, off, rfl, hc k hly⟩
        by_cases hbo : lm xs k < c + lm ys k
        · have hboI : (lm xs k : Int) < (c : Int) + (lm ys k : Int) := by omega
          go_wp2_with (at_builtin; refine wpList_append_own _ rfl _ _ 47 rfl w.heap.size 74 i0 (.int .u32 0) 1 4 Tryd.underlying47 hi hz0 hz1 hz2 rfl (by decide) _ _ _ rfl (World.ownsRow.alloc HO.out _) ⟨_, 0, none⟩ 1 1 [.int .u32 ((lm xs k : Int) + 65536 - ((c : Int) + (lm ys k : Int)))] rfl rfl ?_ ?_ ?_ ?_ ?_ ?_)
          · intro i u hi'
            match i, hi' with
            | 0, hi' => simp at hi'; subst hi'; simp [Addr.add]
          · intro u hu; simp at hu; subst hu; rfl
          · unfold maxLen; omega
          · omega
          · simp; omega
          · intro v6 w6 hown6 hgrow6 _
            obtain ⟨hO6, hB6⟩ := own_step (n := lm xs k + 65536 - (c + lm ys k)) (by omega) HO.out hown6 hgrow6 HBE.out hbs (Nat.le_refl _)
            have HO6 := hide hO6
            have HB6 := hide hB6
            clear hown6 hgrow6 hO6 hB6
            go_wp2
            go_roundw
            case rel => exact ⟨k + 1, 1, _, by omega, by go_num, rfl, by omega, HAT.out.yes HX.out HY.out (by omega), HO6.out, HB6.out⟩
            case measure => simp [intOf]; omega
        · have hboI : ¬ (lm xs k : Int) < (c : Int) + (lm ys k : Int) := by omega
          go_wp2_with (at_builtin; refine wpList_append_own _ rfl _ _ 47 rfl w.heap.size 74 i0 (.int .u32 0) 1 4 Tryd.underlying47 hi hz0 hz1 hz2 rfl (by decide) _ _ _ rfl (World.ownsRow.alloc HO.out _) ⟨_, 0, none⟩ 1 1 [.int .u32 ((lm xs k : Int) - ((c : Int) + (lm ys k : Int)))] rfl rfl ?_ ?_ ?_ ?_ ?_ ?_)
          · rfl
          · unfold maxLen; omega
          · omega
          · first | omega | (simp; omega)
          · intro v6 w6 hown6 hgrow6 _
            obtain ⟨hO6, hB6⟩ := own_step (n := lm xs k - (c + lm ys k)) (by omega) HO.out hown6 hgrow6 HBE.out hbs (Nat.le_refl _)
            have HO6 := hide hO6
            have HB6 := hide hB6
            clear hown6 hgrow6 hO6 hB6
            go_wp2
            go_roundw
            case rel => exact ⟨k + 1, 0, _, by omega, by go_num, rfl, by omega, HAT.out.no HX.out HY.out (by omega), HO6.out, HB6.out⟩
            case measure => simp [intOf]; omega
      · by_cases hbo : lm xs k < c
        · have hboI : (lm xs k : Int) < (c : Int) := by omega
          have HZY := hide (lm_over ys k (by omega))
          go_wp2_with (at_builtin; refine wpList_append_own _ rfl _ _ 47 rfl w.heap.size 74 i0 (.int .u32 0) 1 4 Tryd.underlying47 hi hz0 hz1 hz2 rfl (by decide) _ _ _ rfl (World.ownsRow.alloc HO.out _) ⟨_, 0, none⟩ 1 1 [.int .u32 ((lm xs k : Int) + 65536 - (c : Int))] rfl rfl ?_ ?_ ?_ ?_ ?_ ?_)
          · intro i u hi'
            match i, hi' with
            | 0, hi' => simp at hi'; subst hi'; simp [Addr.add]
          · intro u hu; simp at hu; subst hu; rfl
          · unfold maxLen; omega
          · omega
          · simp; omega
          · intro v6 w6 hown6 hgrow6 _
            obtain ⟨hO6, hB6⟩ := own_step (n := lm xs k + 65536 - (c + lm ys k)) (by have := HZY.out; omega) HO.out hown6 hgrow6 HBE.out hbs (Nat.le_refl _)
            have HO6 := hide hO6
            have HB6 := hide hB6
            clear hown6 hgrow6 hO6 hB6
            go_wp2
            go_roundw
            case rel => exact ⟨k + 1, 1, _, by omega, by go_num, rfl, by omega, HAT.out.yes HX.out HY.out (by have := HZY.out; omega), HO6.out, HB6.out⟩
            case measure => simp [intOf]; omega
        · have hboI : ¬ (lm xs k : Int) < (c : Int) := by omega
          have HZY := hide (lm_over ys k (by omega))
          go_wp2_with (at_builtin; refine wpList_append_own _ rfl _ _ 47 rfl w.heap.size 74 i0 (.int .u32 0) 1 4 Tryd.underlying47 hi hz0 hz1 hz2 rfl (by decide) _ _ _ rfl (World.ownsRow.alloc HO.out _) ⟨_, 0, none⟩ 1 1 [.int .u32 ((lm xs k : Int) - (c : Int))] rfl rfl ?_ ?_ ?_ ?_ ?_ ?_)
          · rfl
          · unfold maxLen; omega
          · omega
          · first | omega | (simp; omega)
          · intro v6 w6 hown6 hgrow6 _
            obtain ⟨hO6, hB6⟩ := own_step (n := lm xs k - (c + lm ys k)) (by have := HZY.out; omega) HO.out hown6 hgrow6 HBE.out hbs (Nat.le_refl _)
            have HO6 := hide hO6
            have HB6 := hide hB6
            clear hown6 hgrow6 hO6 hB6
            go_wp2
            go_roundw
            case rel => exact ⟨k + 1, 0, _, by omega, by go_num, rfl, by omega, HAT.out.no HX.out HY.out (by have := HZY.out; omega), HO6.out, HB6.out⟩
            case measure => simp [intOf]; omega
    · have e : k = xs.length := by omega
      subst e
      go_wp2
      go_ret
      exact ⟨_, acc, rfl, HO.out, HAT.out.ok, HAT.out.last HLY.out HLE.out, HBE.out⟩
theorem rminus_any (v1 v2 : Value) (xs ys : List Nat) (w : World) (h1 : Nums w v1 xs) (h2 : Nums w v2 ys) (hx : D.Ok xs) (hy : D.Ok ys) (b1 : xs.length ≤ 100000000) (hl : ys.length ≤ xs.length) (hle : D.val ys ≤ D.val xs) :
    Calls Tryd.prog 66 #[v1, v2] w fun e w' => ∃ v' acc, e = .returned v' ∧ Nums w' v' acc ∧ D.Ok acc ∧ D.val acc = D.val xs - D.val ys ∧ Below w.heap.size w w' :=
  (rminus_own v1 v2 xs ys w h1 h2 hx hy b1 hl hle).mono fun _ _ ⟨v', acc, he, ho, ok, hv, hb⟩ => ⟨v', acc, he, ho.nums (dok ok), ok, hv, hb⟩
end Go.Proofs.YtdafdfgkfkanjaaDoor

namespace Go.Proofs.YtdafdfgkfkanjaaDoor
open Go.RowKit

/-- a number of the document's handed on: what stands behind it in the end -/
theorem rhanded {w w' : World} {g : Nat} {x y : Value} {z : Int} {b : Bool} {n : Nat} {a : Option Addr} {c : Nat} (hX : Box2 w' g 54 x y) (hx : ∀ z, x ≠ .int .u32 z) (hy : ∀ z, y ≠ .int .u32 z) (hg : w.heap.size ≤ g) (hB : Below w.heap.size w w')
    (hn : Nums w' (.slice a (D.lim n).length c) (D.lim n)) (he : z = sg b n) (h0 : n = 0 → b = false) :
    ∃ v, Ending.returned (.agg #[.bool b, .slice a (D.lim n).length c]) = .returned v ∧ RInt ((w'.setCell ⟨g, 0, none⟩ (.bool b)).setCell ⟨g, 1, none⟩ (.slice a (D.lim n).length c)) v z ∧ Below w.heap.size w ((w'.setCell ⟨g, 0, none⟩ (.bool b)).setCell ⟨g, 1, none⟩ (.slice a (D.lim n).length c)) :=
  ⟨_, rfl, ⟨b, n, a, c, rfl, keeps2 hX hx hy _ _ _ _ hn, he, h0⟩, (hB.setCell (p := ⟨g, 0, none⟩) hg _).setCell (p := ⟨g, 1, none⟩) hg _⟩

theorem dlen_le {m n : Nat} (h : m ≤ n) : (D.lim m).length ≤ (D.lim n).length := by
  have := D.val_lt (D.ok_lim n)
  rw [D.val_lim] at this
  exact D.lim_length_le (Nat.lt_of_le_of_lt h this)

set_option maxRecDepth 100000 in
set_option maxHeartbeats 4000000 in
theorem radd2_any (v1 v2 : Value) (x y : Int) (w : World) (h1 : RInt w v1 x) (h2 : RInt w v2 y) (l1 : (D.lim x.natAbs).length ≤ 100000000) (l2 : (D.lim y.natAbs).length ≤ 100000000) :
    Calls Tryd.prog 47 #[v1, v2] w fun e w' => ∃ v', e = .returned v' ∧ RInt w' v' (x + y) ∧ Below w.heap.size w w' := by
  obtain ⟨b1, n1, a1, c1, rfl, hn1, rfl, h01⟩ := h1
  obtain ⟨b2, n2, a2, c2, rfl, hn2, rfl, h02⟩ := h2
  have HE := hide (nboxes3 54 w (.bool b1) (.slice a1 (D.lim n1).length c1) (.bool b2) (.slice a2 (D.lim n2).length c2) (.bool false) (.slice none 0 0))
  have HN1 := hide (hn1.below HE.out.2.2.2)
  have HN2 := hide (hn2.below HE.out.2.2.2)
  rw [sg_abs] at l1 l2
  clear hn1 h01 hn2 h02
  by_cases hb : b1 = b2
  · subst hb
    go_enter Tryd.func47, Tryd.ntmps47
    go_wp2_with fail
    refine wp_calm (fun w' => Box2 w' w.heap.size 54 (.bool b1) (.slice a1 (D.lim n1).length c1) ∧ Box2 w' (w.heap.size + 1) 54 (.bool b1) (.slice a2 (D.lim n2).length c2)) (fun j => j != 8) 9 #[false, false, false, false, false, false, false, false, false] (by kernel_rfl) rfl rfl ?_
    have HF := hide (And.intro HE.out.1.drew HE.out.2.1.drew)
    refine Calm.take (i := 0) (v := ?_) (a' := ?_) (l' := #[true, false, false, false, false, false, false, false, false]) (d := some 10) rfl (by kernel_rfl) (by kernel_rfl) (by kernel_rfl) (by kernel_rfl) (fun _ _ _ h => h) HF.out rfl ?_ rfl rfl ?_ ?_
    rotate_left
    · intro w' hF; have f0 := hF.1.cell0; have f1 := hF.1.cell1; have f2 := hF.2.cell0; have f3 := hF.2.cell1; clear hF; go_simp; try rfl
    rotate_left
    · simp only [Act.put]; exact rfl
    refine Calm.take (i := 1) (v := ?_) (a' := ?_) (l' := #[true, true, false, false, false, false, false, false, false]) (d := some 11) rfl (by kernel_rfl) (by kernel_rfl) (by kernel_rfl) (by kernel_rfl) (fun _ _ _ h => h) HF.out rfl ?_ rfl rfl ?_ ?_
    rotate_left
    · intro w' hF; have f0 := hF.1.cell0; have f1 := hF.1.cell1; have f2 := hF.2.cell0; have f3 := hF.2.cell1; clear hF; go_simp; try rfl
    rotate_left
    · simp only [Act.put]; exact rfl
    refine Calm.take (i := 2) (v := ?_) (a' := ?_) (l' := #[true, true, true, false, false, false, false, false, false]) (d := some 12) rfl (by kernel_rfl) (by kernel_rfl) (by kernel_rfl) (by kernel_rfl) (fun _ _ _ h => h) HF.out rfl ?_ rfl rfl ?_ ?_
    rotate_left
    · intro w' hF; have f0 := hF.1.cell0; have f1 := hF.1.cell1; have f2 := hF.2.cell0; have f3 := hF.2.cell1; clear hF; go_simp; try rfl
    rotate_left
    · simp only [Act.put]; exact rfl
    refine Calm.take (i := 3) (v := ?_) (a' := ?_) (l' := #[true, true, true, true, false, false, false, false, false]) (d := some 13) rfl (by kernel_rfl) (by kernel_rfl) (by kernel_rfl) (by kernel_rfl) (fun _ _ _ h => h) HF.out rfl ?_ rfl rfl ?_ ?_
    rotate_left
    · intro w' hF; have f0 := hF.1.cell0; have f1 := hF.1.cell1; have f2 := hF.2.cell0; have f3 := hF.2.cell1; clear hF; go_simp; try rfl
    rotate_left
    · simp only [Act.put]; exact rfl
    refine Calm.take (i := 4) (v := ?_) (a' := ?_) (l' := #[true, true, true, true, true, false, false, false, false]) (d := some 14) rfl (by kernel_rfl) (by kernel_rfl) (by kernel_rfl) (by kernel_rfl) (fun _ _ _ h => h) HF.out rfl ?_ rfl rfl ?_ ?_
    rotate_left
    · intro w' hF; have f0 := hF.1.cell0; have f1 := hF.1.cell1; have f2 := hF.2.cell0; have f3 := hF.2.cell1; clear hF; go_simp; try rfl
    rotate_left
    · simp only [Act.put]; exact rfl
    refine Calm.take (i := 5) (v := ?_) (a' := ?_) (l' := #[true, true, true, true, true, true, false, false, false]) (d := some 15) rfl (by kernel_rfl) (by kernel_rfl) (by kernel_rfl) (by kernel_rfl) (fun _ _ _ h => h) HF.out rfl ?_ rfl rfl ?_ ?_
    rotate_left
    · intro w' hF; have f0 := hF.1.cell0; have f1 := hF.1.cell1; have f2 := hF.2.cell0; have f3 := hF.2.cell1; clear hF; go_simp; try rfl
    rotate_left
    · simp only [Act.put]; exact rfl
    refine Calm.one (i := 6) (l' := #[true, true, true, true, true, true, true, false, false]) (by kernel_rfl) rfl rfl rfl fun K hK => ?_
    go_simp
    refine (rplus_any _ _ (D.lim n1) (D.lim n2) _ HN1.out.drew HN2.out.drew (D.ok_lim _) (D.ok_lim _) l1 l2).mono ?_
    rintro e w1 ⟨v1, acc, rfl, m1, mo, mv, hb1⟩
    rw [D.val_lim, D.val_lim] at mv
    have HM1 := hide (And.intro m1 (And.intro mo mv))
    clear m1 mo mv
    have HR := hide (HE.out.2.2.1.drew.step hb1)
    have HB1 := hide (HE.out.2.2.2.trans ((Below.refl _ _).drew.trans (hb1.mono HE.out.2.2.2.size)))
    have HF' := hide (And.intro (HF.out.1.step hb1) (HF.out.2.step hb1))
    refine hK _ _ (fun _ => HF'.out) ?_
    clear hK K HF
    have HF := hide HF'.out
    clear HF'
    refine Calm.one (i := 7) (l' := #[true, true, true, true, true, true, true, true, false]) (by kernel_rfl) rfl rfl rfl fun K hK => ?_
    go_simp
    refine (rnorm2_any b1 _ acc _ HM1.out.1 HM1.out.2.1).mono ?_
    rintro e w2 ⟨v, rfl, ⟨b', n', a', c', rfl, hn', he, h0⟩, hb2⟩
    rw [HM1.out.2.2] at he
    have HX := hide (HR.out.step hb2)
    have HB2 := hide (HB1.out.trans (hb2.mono HB1.out.size))
    have HF' := hide (And.intro (HF.out.1.step hb2) (HF.out.2.step hb2))
    refine hK _ _ (fun _ => HF'.out) ?_
    clear hK K HF
    have HF := hide HF'.out
    clear HF'
    refine Calm.one (i := 8) (l' := #[true, true, true, true, true, true, true, true, true]) (by kernel_rfl) rfl rfl rfl fun K hK => ?_
    have hc0 := HX.out.cell0
    have hc1 := HX.out.cell1
    have hf0 := HX.out.free 0
    have hf1 := HX.out.free 1
    go_simp
    refine hK _ _ (fun h => absurd h (by decide)) ?_
    clear hK K
    refine Calm.done (by kernel_rfl) ?_
    go_wp2
    refine ret_ref rfl (w.heap.size + 1 + 1) _ _ _ _ rfl ((HX.out.set0 _).set1 _) rfl ?_
    refine rhanded HX.out (by simp) (by simp) (by omega) HB2.out hn' ?_ h0
    rw [← he, sg_add]
  · have hb' : b2 = !b1 := by cases b1 <;> cases b2 <;> simp_all
    subst hb'
    clear hb
    by_cases hlt : n1 < n2
    · have HLT := hide hlt
      have hcz : ¬ (0 : Int) ≤ cmpI n1 n2 := by rw [cmpI_lt hlt]; decide
      clear hlt
      go_enter Tryd.func47, Tryd.ntmps47
      go_wp2_with fail
      refine (rsize_any _ _ n1 n2 _ HN1.out HN2.out).mono ?_
      rintro e wz ⟨rfl, hb⟩
      have HEz := hide (And.intro (HE.out.1.step hb) (And.intro (HE.out.2.1.step hb) (And.intro (HE.out.2.2.1.step hb) (HE.out.2.2.2.trans (hb.mono HE.out.2.2.2.size)))))
      replace HN1 := hide (HN1.out.below hb)
      replace HN2 := hide (HN2.out.below hb)
      clear hb HE
      have HE := hide HEz.out
      clear HEz
      go_wp2_with fail
      refine wp_calm (fun w' => Box2 w' w.heap.size 54 (.bool b1) (.slice a1 (D.lim n1).length c1) ∧ Box2 w' (w.heap.size + 1) 54 (.bool !b1) (.slice a2 (D.lim n2).length c2)) (fun j => j != 8) 9 #[false, false, false, false, false, false, false, false, false] (by kernel_rfl) rfl rfl ?_
      have HF := hide (And.intro HE.out.1.drew HE.out.2.1.drew)
      refine Calm.take (i := 0) (v := ?_) (a' := ?_) (l' := #[true, false, false, false, false, false, false, false, false]) (d := some 32) rfl (by kernel_rfl) (by kernel_rfl) (by kernel_rfl) (by kernel_rfl) (fun _ _ _ h => h) HF.out rfl ?_ rfl rfl ?_ ?_
      rotate_left
      · intro w' hF; have f0 := hF.1.cell0; have f1 := hF.1.cell1; have f2 := hF.2.cell0; have f3 := hF.2.cell1; clear hF; go_simp; try rfl
      rotate_left
      · simp only [Act.put]; exact rfl
      refine Calm.take (i := 1) (v := ?_) (a' := ?_) (l' := #[true, true, false, false, false, false, false, false, false]) (d := some 33) rfl (by kernel_rfl) (by kernel_rfl) (by kernel_rfl) (by kernel_rfl) (fun _ _ _ h => h) HF.out rfl ?_ rfl rfl ?_ ?_
      rotate_left
      · intro w' hF; have f0 := hF.1.cell0; have f1 := hF.1.cell1; have f2 := hF.2.cell0; have f3 := hF.2.cell1; clear hF; go_simp; try rfl
      rotate_left
      · simp only [Act.put]; exact rfl
      refine Calm.take (i := 2) (v := ?_) (a' := ?_) (l' := #[true, true, true, false, false, false, false, false, false]) (d := some 34) rfl (by kernel_rfl) (by kernel_rfl) (by kernel_rfl) (by kernel_rfl) (fun _ _ _ h => h) HF.out rfl ?_ rfl rfl ?_ ?_
      rotate_left
      · intro w' hF; have f0 := hF.1.cell0; have f1 := hF.1.cell1; have f2 := hF.2.cell0; have f3 := hF.2.cell1; clear hF; go_simp; try rfl
      rotate_left
      · simp only [Act.put]; exact rfl
      refine Calm.take (i := 3) (v := ?_) (a' := ?_) (l' := #[true, true, true, true, false, false, false, false, false]) (d := some 35) rfl (by kernel_rfl) (by kernel_rfl) (by kernel_rfl) (by kernel_rfl) (fun _ _ _ h => h) HF.out rfl ?_ rfl rfl ?_ ?_
      rotate_left
      · intro w' hF; have f0 := hF.1.cell0; have f1 := hF.1.cell1; have f2 := hF.2.cell0; have f3 := hF.2.cell1; clear hF; go_simp; try rfl
      rotate_left
      · simp only [Act.put]; exact rfl
      refine Calm.take (i := 4) (v := ?_) (a' := ?_) (l' := #[true, true, true, true, true, false, false, false, false]) (d := some 36) rfl (by kernel_rfl) (by kernel_rfl) (by kernel_rfl) (by kernel_rfl) (fun _ _ _ h => h) HF.out rfl ?_ rfl rfl ?_ ?_
      rotate_left
      · intro w' hF; have f0 := hF.1.cell0; have f1 := hF.1.cell1; have f2 := hF.2.cell0; have f3 := hF.2.cell1; clear hF; go_simp; try rfl
      rotate_left
      · simp only [Act.put]; exact rfl
      refine Calm.take (i := 5) (v := ?_) (a' := ?_) (l' := #[true, true, true, true, true, true, false, false, false]) (d := some 37) rfl (by kernel_rfl) (by kernel_rfl) (by kernel_rfl) (by kernel_rfl) (fun _ _ _ h => h) HF.out rfl ?_ rfl rfl ?_ ?_
      rotate_left
      · intro w' hF; have f0 := hF.1.cell0; have f1 := hF.1.cell1; have f2 := hF.2.cell0; have f3 := hF.2.cell1; clear hF; go_simp; try rfl
      rotate_left
      · simp only [Act.put]; exact rfl
      refine Calm.one (i := 6) (l' := #[true, true, true, true, true, true, true, false, false]) (by kernel_rfl) rfl rfl rfl fun K hK => ?_
      go_simp
      refine (rminus_any _ _ (D.lim n2) (D.lim n1) _ HN2.out.drew HN1.out.drew (D.ok_lim _) (D.ok_lim _) l2 (dlen_le (Nat.le_of_lt HLT.out)) (by rw [D.val_lim, D.val_lim]; exact Nat.le_of_lt HLT.out)).mono ?_
      rintro e w1 ⟨v1, acc, rfl, m1, mo, mv, hb1⟩
      rw [D.val_lim, D.val_lim] at mv
      have HM1 := hide (And.intro m1 (And.intro mo mv))
      clear m1 mo mv
      have HR := hide (HE.out.2.2.1.drew.step hb1)
      have HB1 := hide (HE.out.2.2.2.trans ((Below.refl _ _).drew.trans (hb1.mono HE.out.2.2.2.size)))
      have HF' := hide (And.intro (HF.out.1.step hb1) (HF.out.2.step hb1))
      refine hK _ _ (fun _ => HF'.out) ?_
      clear hK K HF
      have HF := hide HF'.out
      clear HF'
      refine Calm.one (i := 7) (l' := #[true, true, true, true, true, true, true, true, false]) (by kernel_rfl) rfl rfl rfl fun K hK => ?_
      go_simp
      refine (rnorm2_any (!b1) _ acc _ HM1.out.1 HM1.out.2.1).mono ?_
      rintro e w2 ⟨v, rfl, ⟨b', n', a', c', rfl, hn', he, h0⟩, hb2⟩
      rw [HM1.out.2.2] at he
      have HX := hide (HR.out.step hb2)
      have HB2 := hide (HB1.out.trans (hb2.mono HB1.out.size))
      have HF' := hide (And.intro (HF.out.1.step hb2) (HF.out.2.step hb2))
      refine hK _ _ (fun _ => HF'.out) ?_
      clear hK K HF
      have HF := hide HF'.out
      clear HF'
      refine Calm.one (i := 8) (l' := #[true, true, true, true, true, true, true, true, true]) (by kernel_rfl) rfl rfl rfl fun K hK => ?_
      have hc0 := HX.out.cell0
      have hc1 := HX.out.cell1
      have hf0 := HX.out.free 0
      have hf1 := HX.out.free 1
      go_simp
      refine hK _ _ (fun h => absurd h (by decide)) ?_
      clear hK K
      refine Calm.done (by kernel_rfl) ?_
      go_wp2
      refine ret_ref rfl (w.heap.size + 1 + 1) _ _ _ _ rfl ((HX.out.set0 _).set1 _) rfl ?_
      refine rhanded HX.out (by simp) (by simp) (by omega) HB2.out hn' ?_ h0
      rw [← he, sg_lt _ _ _ HLT.out]
    · have HLT := hide hlt
      have hcz : (0 : Int) ≤ cmpI n1 n2 := by
        unfold cmpI; rw [if_neg hlt]; split <;> decide
      clear hlt
      go_enter Tryd.func47, Tryd.ntmps47
      go_wp2_with fail
      refine (rsize_any _ _ n1 n2 _ HN1.out HN2.out).mono ?_
      rintro e wz ⟨rfl, hb⟩
      have HEz := hide (And.intro (HE.out.1.step hb) (And.intro (HE.out.2.1.step hb) (And.intro (HE.out.2.2.1.step hb) (HE.out.2.2.2.trans (hb.mono HE.out.2.2.2.size)))))
      replace HN1 := hide (HN1.out.below hb)
      replace HN2 := hide (HN2.out.below hb)
      clear hb HE
      have HE := hide HEz.out
      clear HEz
      go_wp2_with fail
      refine wp_calm (fun w' => Box2 w' w.heap.size 54 (.bool b1) (.slice a1 (D.lim n1).length c1) ∧ Box2 w' (w.heap.size + 1) 54 (.bool !b1) (.slice a2 (D.lim n2).length c2)) (fun j => j != 8) 9 #[false, false, false, false, false, false, false, false, false] (by kernel_rfl) rfl rfl ?_
      have HF := hide (And.intro HE.out.1.drew HE.out.2.1.drew)
      refine Calm.take (i := 0) (v := ?_) (a' := ?_) (l' := #[true, false, false, false, false, false, false, false, false]) (d := some 24) rfl (by kernel_rfl) (by kernel_rfl) (by kernel_rfl) (by kernel_rfl) (fun _ _ _ h => h) HF.out rfl ?_ rfl rfl ?_ ?_
      rotate_left
      · intro w' hF; have f0 := hF.1.cell0; have f1 := hF.1.cell1; have f2 := hF.2.cell0; have f3 := hF.2.cell1; clear hF; go_simp; try rfl
      rotate_left
      · simp only [Act.put]; exact rfl
      refine Calm.take (i := 1) (v := ?_) (a' := ?_) (l' := #[true, true, false, false, false, false, false, false, false]) (d := some 25) rfl (by kernel_rfl) (by kernel_rfl) (by kernel_rfl) (by kernel_rfl) (fun _ _ _ h => h) HF.out rfl ?_ rfl rfl ?_ ?_
      rotate_left
      · intro w' hF; have f0 := hF.1.cell0; have f1 := hF.1.cell1; have f2 := hF.2.cell0; have f3 := hF.2.cell1; clear hF; go_simp; try rfl
      rotate_left
      · simp only [Act.put]; exact rfl
      refine Calm.take (i := 2) (v := ?_) (a' := ?_) (l' := #[true, true, true, false, false, false, false, false, false]) (d := some 26) rfl (by kernel_rfl) (by kernel_rfl) (by kernel_rfl) (by kernel_rfl) (fun _ _ _ h => h) HF.out rfl ?_ rfl rfl ?_ ?_
      rotate_left
      · intro w' hF; have f0 := hF.1.cell0; have f1 := hF.1.cell1; have f2 := hF.2.cell0; have f3 := hF.2.cell1; clear hF; go_simp; try rfl
      rotate_left
      · simp only [Act.put]; exact rfl
      refine Calm.take (i := 3) (v := ?_) (a' := ?_) (l' := #[true, true, true, true, false, false, false, false, false]) (d := some 27) rfl (by kernel_rfl) (by kernel_rfl) (by kernel_rfl) (by kernel_rfl) (fun _ _ _ h => h) HF.out rfl ?_ rfl rfl ?_ ?_
      rotate_left
      · intro w' hF; have f0 := hF.1.cell0; have f1 := hF.1.cell1; have f2 := hF.2.cell0; have f3 := hF.2.cell1; clear hF; go_simp; try rfl
      rotate_left
      · simp only [Act.put]; exact rfl
      refine Calm.take (i := 4) (v := ?_) (a' := ?_) (l' := #[true, true, true, true, true, false, false, false, false]) (d := some 28) rfl (by kernel_rfl) (by kernel_rfl) (by kernel_rfl) (by kernel_rfl) (fun _ _ _ h => h) HF.out rfl ?_ rfl rfl ?_ ?_
      rotate_left
      · intro w' hF; have f0 := hF.1.cell0; have f1 := hF.1.cell1; have f2 := hF.2.cell0; have f3 := hF.2.cell1; clear hF; go_simp; try rfl
      rotate_left
      · simp only [Act.put]; exact rfl
      refine Calm.take (i := 5) (v := ?_) (a' := ?_) (l' := #[true, true, true, true, true, true, false, false, false]) (d := some 29) rfl (by kernel_rfl) (by kernel_rfl) (by kernel_rfl) (by kernel_rfl) (fun _ _ _ h => h) HF.out rfl ?_ rfl rfl ?_ ?_
      rotate_left
      · intro w' hF; have f0 := hF.1.cell0; have f1 := hF.1.cell1; have f2 := hF.2.cell0; have f3 := hF.2.cell1; clear hF; go_simp; try rfl
      rotate_left
      · simp only [Act.put]; exact rfl
      refine Calm.one (i := 6) (l' := #[true, true, true, true, true, true, true, false, false]) (by kernel_rfl) rfl rfl rfl fun K hK => ?_
      go_simp
      refine (rminus_any _ _ (D.lim n1) (D.lim n2) _ HN1.out.drew HN2.out.drew (D.ok_lim _) (D.ok_lim _) l1 (dlen_le (Nat.le_of_not_lt HLT.out)) (by rw [D.val_lim, D.val_lim]; exact Nat.le_of_not_lt HLT.out)).mono ?_
      rintro e w1 ⟨v1, acc, rfl, m1, mo, mv, hb1⟩
      rw [D.val_lim, D.val_lim] at mv
      have HM1 := hide (And.intro m1 (And.intro mo mv))
      clear m1 mo mv
      have HR := hide (HE.out.2.2.1.drew.step hb1)
      have HB1 := hide (HE.out.2.2.2.trans ((Below.refl _ _).drew.trans (hb1.mono HE.out.2.2.2.size)))
      have HF' := hide (And.intro (HF.out.1.step hb1) (HF.out.2.step hb1))
      refine hK _ _ (fun _ => HF'.out) ?_
      clear hK K HF
      have HF := hide HF'.out
      clear HF'
      refine Calm.one (i := 7) (l' := #[true, true, true, true, true, true, true, true, false]) (by kernel_rfl) rfl rfl rfl fun K hK => ?_
      go_simp
      refine (rnorm2_any b1 _ acc _ HM1.out.1 HM1.out.2.1).mono ?_
      rintro e w2 ⟨v, rfl, ⟨b', n', a', c', rfl, hn', he, h0⟩, hb2⟩
      rw [HM1.out.2.2] at he
      have HX := hide (HR.out.step hb2)
      have HB2 := hide (HB1.out.trans (hb2.mono HB1.out.size))
      have HF' := hide (And.intro (HF.out.1.step hb2) (HF.out.2.step hb2))
      refine hK _ _ (fun _ => HF'.out) ?_
      clear hK K HF
      have HF := hide HF'.out
      clear HF'
      refine Calm.one (i := 8) (l' := #[true, true, true, true, true, true, true, true, true]) (by kernel_rfl) rfl rfl rfl fun K hK => ?_
      have hc0 := HX.out.cell0
      have hc1 := HX.out.cell1
      have hf0 := HX.out.free 0
      have hf1 := HX.out.free 1
      go_simp
      refine hK _ _ (fun h => absurd h (by decide)) ?_
      clear hK K
      refine Calm.done (by kernel_rfl) ?_
      go_wp2
      refine ret_ref rfl (w.heap.size + 1 + 1) _ _ _ _ rfl ((HX.out.set0 _).set1 _) rfl ?_
      refine rhanded HX.out (by simp) (by simp) (by omega) HB2.out hn' ?_ h0
      rw [← he, sg_ge _ _ _ HLT.out]

end Go.Proofs.YtdafdfgkfkanjaaDoor

namespace Go.Proofs.YtdafdfgkfkanjaaDoor
open Go.RowKit

theorem dset_val (out : List Nat) (p d : Nat) (h : p < out.length) : D.val (out.set p d) + 65536 ^ p * lm out p = D.val out + 65536 ^ p * d := by
  induction out generalizing p with
  | nil => simp at h
  | cons x out ih =>
    cases p with
    | zero => simp [D.val, lm]; omega
    | succ p =>
      have := ih p (by simpa using h)
      have e : lm (x :: out) (p + 1) = lm out p := by simp [lm]
      rw [e, List.set_cons_succ]
      simp only [D.val]
      show x + 65536 * D.val (out.set p d) + 65536 ^ (p + 1) * lm out p = x + 65536 * D.val out + 65536 ^ (p + 1) * d
      rw [Nat.pow_succ, Nat.mul_comm (65536 ^ p) 65536, Nat.mul_assoc, Nat.mul_assoc, Nat.add_assoc, Nat.add_assoc, ← Nat.mul_add, ← Nat.mul_add, this]

/-- a product's state: the rows ahead of i, of the row i the digits ahead of j -/
structure ProdAt (xs ys : List Nat) (i j c : Nat) (out : List Nat) : Prop where
  len : out.length = xs.length + ys.length + 1
  ok : D.Ok out
  c1 : c < 65536
  sum : D.val out + 65536 ^ (i + j) * c = D.val (xs.take i) * D.val ys + 65536 ^ i * lm xs i * D.val (ys.take j)
theorem ProdAt.start (xs ys : List Nat) : ProdAt xs ys 0 0 0 (List.replicate (xs.length + ys.length + 1) 0) := by
  refine ⟨by simp, fun x hx => ?_, by decide, ?_⟩
  · rw [List.eq_of_mem_replicate hx]; decide
  · rw [show D.val (List.replicate (xs.length + ys.length + 1) 0) = 0 from D.val_replicate _]; simp [D.val]
theorem ProdAt.step {xs ys : List Nat} {i j c : Nat} {out : List Nat} (h : ProdAt xs ys i j c out) (hx : D.Ok xs) (hy : D.Ok ys) (hp : i + j < out.length) :
    ProdAt xs ys i (j + 1) ((c + lm out (i + j) + lm xs i * lm ys j) / 65536) (out.set (i + j) ((c + lm out (i + j) + lm xs i * lm ys j) % 65536)) := by
  have h1 := dlm_lt hx i
  have h2 := dlm_lt hy j
  have h3 := dlm_lt h.ok (i + j)
  have h4 := h.c1
  have h5 : lm xs i * lm ys j ≤ 65535 * 65535 := Nat.mul_le_mul (by omega) (by omega)
  refine ⟨by rw [List.length_set]; exact h.len, h.ok.set _ _ (Nat.mod_lt _ (by decide)), by omega, ?_⟩
  have e := dset_val out (i + j) ((c + lm out (i + j) + lm xs i * lm ys j) % 65536) hp
  have em := Nat.mod_add_div (c + lm out (i + j) + lm xs i * lm ys j) 65536
  rw [dtake_succ, show i + (j + 1) = i + j + 1 from by omega, Nat.pow_succ]
  have hs := h.sum
  have e1 : 65536 ^ (i + j) * ((c + lm out (i + j) + lm xs i * lm ys j) % 65536) + 65536 ^ (i + j) * 65536 * ((c + lm out (i + j) + lm xs i * lm ys j) / 65536) = 65536 ^ (i + j) * c + 65536 ^ (i + j) * lm out (i + j) + 65536 ^ (i + j) * (lm xs i * lm ys j) := by
    rw [Nat.mul_assoc, ← Nat.mul_add, em, Nat.mul_add, Nat.mul_add]
  have e2 : 65536 ^ i * lm xs i * (D.val (ys.take j) + 65536 ^ j * lm ys j) = 65536 ^ i * lm xs i * D.val (ys.take j) + 65536 ^ (i + j) * (lm xs i * lm ys j) := by
    rw [Nat.mul_add, Nat.pow_add]
    congr 1
    rw [Nat.mul_assoc, Nat.mul_assoc]
    congr 1
    rw [← Nat.mul_assoc, ← Nat.mul_assoc, Nat.mul_comm (lm xs i)]
  rw [e2]
  omega
theorem ProdAt.last {xs ys : List Nat} {i j : Nat} {out : List Nat} (h : ProdAt xs ys i j 0 out) (hj : ys.length ≤ j) : ProdAt xs ys (i + 1) 0 0 out := by
  refine ⟨h.len, h.ok, by decide, ?_⟩
  have := h.sum
  rw [List.take_of_length_le hj, Nat.mul_zero, Nat.add_zero] at this
  rw [this, dtake_succ, List.take_zero]
  simp only [D.val, Nat.mul_zero, Nat.add_zero]
  rw [Nat.add_mul]
theorem ProdAt.whole {xs ys : List Nat} {i : Nat} {out : List Nat} (h : ProdAt xs ys i 0 0 out) (hi : xs.length ≤ i) : D.val out = D.val xs * D.val ys := by
  have := h.sum
  rw [List.take_of_length_le hi, List.take_zero] at this
  simpa [D.val] using this
theorem dtake_le (ys : List Nat) (j : Nat) : D.val (ys.take j) ≤ D.val ys := by
  have := D.val_append (ys.take j) (ys.drop j)
  rw [List.take_append_drop] at this
  omega
theorem ProdAt.room {xs ys : List Nat} {i j c : Nat} {out : List Nat} (h : ProdAt xs ys i j c out) (hx : D.Ok xs) (hy : D.Ok ys) (hc : 0 < c) : j ≤ ys.length := by
  have h1 : D.val (xs.take (i + 1)) < 65536 ^ (i + 1) := Nat.lt_of_lt_of_le (D.val_lt (hx.take (i + 1))) (Nat.pow_le_pow_right (by decide) (by rw [List.length_take]; omega))
  have h2 : D.val ys < 65536 ^ ys.length := D.val_lt hy
  have h3 : D.val (xs.take (i + 1)) * D.val ys < 65536 ^ (i + 1) * 65536 ^ ys.length := Nat.mul_lt_mul_of_lt_of_le h1 (Nat.le_of_lt h2) (Nat.pow_pos (by decide))
  rw [dtake_succ, Nat.add_mul, ← Nat.pow_add] at h3
  have h4 : 65536 ^ i * lm xs i * D.val (ys.take j) ≤ 65536 ^ i * lm xs i * D.val ys := Nat.mul_le_mul_left _ (dtake_le ys j)
  have h5 : 65536 ^ (i + j) ≤ 65536 ^ (i + j) * c := Nat.le_mul_of_pos_right _ hc
  have hs := h.sum
  have h6 : 65536 ^ (i + j) < 65536 ^ (i + 1 + ys.length) := by omega
  have := (Nat.pow_lt_pow_iff_right (by decide)).1 h6
  omega

theorem mul2_next {W0 wq : World} {T n i j c : Nat} {X Y out : List Nat} {s : Int} (hat : ProdAt X Y i j c out) (hx : D.Ok X) (hy : D.Ok Y) (hp : i + j < out.length) (hrow : RowC wq T T n n out) (hbel : Below T W0 wq) (hs : s = ((c + lm out (i + j) + lm X i * lm Y j : Nat) : Int)) :
    ProdAt X Y i (j + 1) ((c + lm out (i + j) + lm X i * lm Y j) / 65536) (out.set (i + j) ((c + lm out (i + j) + lm X i * lm Y j) % 65536)) ∧ Value.int .u64 (s / 65536) = .int .u64 ((c + lm out (i + j) + lm X i * lm Y j) / 65536 : Nat) ∧
      RowC (wq.setCell ⟨T, i + j, none⟩ (.int .u32 (s % 65536))) T T n n (out.set (i + j) ((c + lm out (i + j) + lm X i * lm Y j) % 65536)) ∧ Below T W0 (wq.setCell ⟨T, i + j, none⟩ (.int .u32 (s % 65536))) := by
  have e : s % 65536 = (((c + lm out (i + j) + lm X i * lm Y j) % 65536 : Nat) : Int) := by rw [hs, Int.natCast_emod]; rfl
  have e' : s / 65536 = (((c + lm out (i + j) + lm X i * lm Y j) / 65536 : Nat) : Int) := by rw [hs, Int.natCast_ediv]; rfl
  refine ⟨hat.step hx hy hp, by rw [e'], ?_, hbel.setCell (p := ⟨T, i + j, none⟩) (Nat.le_refl _) _⟩
  rw [e]; exact hrow.set _ _

set_option maxRecDepth 100000 in
set_option maxHeartbeats 4000000 in
theorem rmul2_any (v1 v2 : Value) (x y : Int) (w : World) (h1 : RInt w v1 x) (h2 : RInt w v2 y) (l1 : (D.lim x.natAbs).length ≤ 100000000) (l2 : (D.lim y.natAbs).length ≤ 100000000) :
    Calls Tryd.prog 48 #[v1, v2] w fun e w' => ∃ v', e = .returned v' ∧ RInt w' v' (x * y) ∧ Below w.heap.size w w' := by
  obtain ⟨i0, hi, hz0, hz1, hz2⟩ := info_parts Tryd.info74
  obtain ⟨b1, n1, a1, c1, rfl, hn1, rfl, h01⟩ := h1
  obtain ⟨b2, n2, a2, c2, rfl, hn2, rfl, h02⟩ := h2
  have HE := hide (nboxes3 54 w (.bool b1) (.slice a1 (D.lim n1).length c1) (.bool b2) (.slice a2 (D.lim n2).length c2) (.bool false) (.slice none 0 0))
  have HN1 := hide (hn1.below HE.out.2.2.2)
  have HN2 := hide (hn2.below HE.out.2.2.2)
  rw [sg_abs] at l1 l2
  have HV1 := hide (D.val_lim n1)
  have HV2 := hide (D.val_lim n2)
  have HX := hide (D.ok_lim n1)
  have HY := hide (D.ok_lim n2)
  clear hn1 h01 hn2 h02
  obtain ⟨X, hX⟩ : ∃ X, X = D.lim n1 := ⟨_, rfl⟩
  obtain ⟨Y, hY⟩ : ∃ Y, Y = D.lim n2 := ⟨_, rfl⟩
  rw [← hX] at HE HN1 HN2 HV1 HX l1
  rw [← hY] at HE HN1 HN2 HV2 HY l2
  rw [← hX, ← hY]
  clear hX hY
  obtain ⟨_, a', c', he1, _, hm1, hcc1⟩ := HN1.out
  obtain ⟨_, a'', c'', he2, _, hm2, hcc2⟩ := HN2.out
  simp only [Value.slice.injEq] at he1 he2
  obtain ⟨rfl, _, rfl⟩ := he1
  obtain ⟨rfl, _, rfl⟩ := he2
  have HC1 := hide hcc1
  have HC2 := hide hcc2
  unfold maxLen at hm1 hm2
  clear hcc1 hcc2
  go_enter Tryd.func48, Tryd.ntmps48
  have HTS : Hid (w.heap.size + 1 + 1 + 1 = (((w.alloc (.cells #[.bool b1, .slice a1 X.length c1] 54)).alloc (.cells #[.bool b2, .slice a2 Y.length c2] 54)).alloc (.cells #[.bool false, .slice none 0 0] 54)).heap.size) := hide (by simp)
  go_wp2_with (at_make; refine wpList_make_full _ rfl _ _ 47 rfl (w.heap.size + 1 + 1 + 1) 74 i0 (.int .u32 0) 1 Tryd.underlying47 hi hz0 hz1 _ _ _ _ (X.length + Y.length + 1) rfl rfl ?_ ?_ ?_ ?_ ?_ ?_)
  · omega
  · omega
  · rw [hz2]; omega
  · unfold maxLen; omega
  · exact Nat.le_of_eq HTS.out
  intro w1 hown hgrow
  have HB1 : Hid (Below (w.heap.size + 1 + 1 + 1) (((w.alloc (.cells #[.bool b1, .slice a1 X.length c1] 54)).alloc (.cells #[.bool b2, .slice a2 Y.length c2] 54)).alloc (.cells #[.bool false, .slice none 0 0] 54)) w1) := hide ((Below.refl _ _).grown hgrow (Nat.le_of_eq HTS.out) (fun k hk => by simp at hk))
  have HR1 : Hid (RowC w1 (w.heap.size + 1 + 1 + 1) (w.heap.size + 1 + 1 + 1) (X.length + Y.length + 1) (X.length + Y.length + 1) (List.replicate (X.length + Y.length + 1) 0)) := hide (by rw [made_fil] at hown; unfold RowC; simpa [fil] using hown)
  clear hown hgrow
  obtain ⟨W0, hW0⟩ : ∃ W0, W0 = ((w.alloc (.cells #[.bool b1, .slice a1 X.length c1] 54)).alloc (.cells #[.bool b2, .slice a2 Y.length c2] 54)).alloc (.cells #[.bool false, .slice none 0 0] 54) := ⟨_, rfl⟩
  rw [← hW0] at HE HN1 HN2 HC1 HC2 HTS HB1
  clear hW0
  obtain ⟨T, hT⟩ : ∃ T, T = w.heap.size + 1 + 1 + 1 := ⟨_, rfl⟩
  have HTV := hide hT
  rw [← hT] at HTS HB1 HR1 ⊢
  go_wp2
  clear hT
  go_loopw [6] (fun iv wr => ∃ (i : Nat) (out : List Nat), i ≤ X.length ∧ iv = .int .i64 i ∧ ProdAt X Y i 0 0 out ∧ RowC wr T T (X.length + Y.length + 1) (X.length + Y.length + 1) out ∧ Below T W0 wr) (fun iv _ => X.length - (intOf iv).toNat)
  case atStart => exact ⟨0, _, Nat.zero_le _, rfl, ProdAt.start X Y, HR1.out, HB1.out⟩
  case round =>
    clear HR1 HB1
    obtain ⟨i, out, hiX, rfl, hat, hrow, hbel⟩ := hrel
    have HAT := hide hat
    have HRW := hide hrow
    have HBE := hide hbel
    have HXB := hide (HE.out.1.below hbel (by have := HTV.out; omega))
    have HYB := hide (HE.out.2.1.below hbel (by have := HTV.out; omega))
    have hxb := HXB.out.cell1
    clear hat hrow hbel
    by_cases hlt : i < X.length
    · go_wp2
      go_loopw [7, 8] (fun cv jv wx => ∃ (j c : Nat) (out : List Nat), j ≤ Y.length + 1 ∧ jv = .int .i64 j ∧ cv = .int .u64 c ∧ c < 65536 ∧ Hid (j ≤ Y.length ∨ c = 0) ∧ ProdAt X Y i j c out ∧ RowC wx T T (X.length + Y.length + 1) (X.length + Y.length + 1) out ∧ Below T W0 wx) (fun _ jv _ => Y.length + 1 - (intOf jv).toNat)
      case atStart => exact ⟨0, 0, out, by omega, rfl, rfl, by omega, .inr rfl, HAT.out, HRW.out, HBE.out⟩
      case round =>
        clear HXB HYB hxb HAT HRW HBE
        obtain ⟨j, c, out, hj, rfl, rfl, hc, HJ, hat, hrow, hbel⟩ := hrel
        have HAT := hide hat
        have HRW := hide hrow
        have HBE := hide hbel
        have HXB := hide (HE.out.1.below hbel (by have := HTV.out; omega))
        have HYB := hide (HE.out.2.1.below hbel (by have := HTV.out; omega))
        have hxb := HXB.out.cell1
        have hyb := HYB.out.cell1
        have HRM := hide (fun h => hat.room HX.out HY.out h)
        have HLN := hide hat.len
        by_cases hgo : j < Y.length ∨ 0 < c
        · have hjY : j ≤ Y.length := by
            rcases hgo with h | h
            · omega
            · exact HRM.out h
          have hfr := hrow.free (i + j)
          have hcl := hrow.cell hat.len (i + j) (by omega)
          have ho1 := dlm_lt hat.ok (i + j)
          have hx1 := dlm_lt HX.out i
          have hy1 := dlm_lt HY.out j
          clear hat hrow hbel
          obtain ⟨B1, o1, rfl, hxc⟩ := HC1.out (ne_nil hlt)
          have hxk : wr.cell? ⟨B1, o1 + i, none⟩ = some (.int .u32 (lm X i : Nat)) := by
            have h0 := hxc i hlt
            have hb0 := World.block_lt_of_cell? W0 _ h0
            rw [HBE.out.cell (by rw [HTS.out]; exact hb0)]; exact h0
          clear hxc
          by_cases hlj : j < Y.length
          · obtain ⟨B2, o2, rfl, hyc⟩ := HC2.out (ne_nil hlj)
            have hyk : wr.cell? ⟨B2, o2 + j, none⟩ = some (.int .u32 (lm Y j : Nat)) := by
              have h0 := hyc j hlj
              have hb0 := World.block_lt_of_cell? W0 _ h0
              rw [HBE.out.cell (by rw [HTS.out]; exact hb0)]; exact h0
            clear hyc
            have hp1 : (lm X i : Int) * (lm Y j : Int) ≤ 4294836225 := by
              have : lm X i * lm Y j ≤ 65535 * 65535 := Nat.mul_le_mul (by omega) (by omega)
              have e : ((lm X i * lm Y j : Nat) : Int) = (lm X i : Int) * (lm Y j : Int) := Int.natCast_mul _ _
              omega
            have hp0 : 0 ≤ (lm X i : Int) * (lm Y j : Int) := Int.mul_nonneg (by omega) (by omega)
            have hltI : (i : Int) < (X.length : Int) := by omega
            have hljI : (j : Int) < (Y.length : Int) := by omega
            go_wp2
            go_quiet (fail)
            go_wp2
            obtain ⟨k1, k2, k3, k4⟩ := mul2_next (wq := wr.drewN nq) (s := (c : Int) + (lm out (i + j) : Int) + (lm X i : Int) * (lm Y j : Int)) HAT.out HX.out HY.out (by rw [HLN.out]; omega) HRW.out (below_drewN HBE.out _) (by rw [Int.natCast_add, Int.natCast_add, Int.natCast_mul])
            have K1 := hide k1
            have K2 := hide k2
            have K3 := hide k3
            have K4 := hide k4
            clear k1 k2 k3 k4
            go_roundw
            case rel => exact ⟨j + 1, _, _, by omega, by go_num, K2.out, K1.out.c1, .inl (by omega), K1.out, K3.out, K4.out⟩
            case measure => simp [intOf]; omega
          · have hcp : 0 < c := by rcases hgo with h | h; exact absurd h hlj; exact h
            have HZY := hide (lm_over Y j (by omega))
            go_wp2
            obtain ⟨k1, k2, k3, k4⟩ := mul2_next (wq := wr) (s := (c : Int) + (lm out (i + j) : Int)) HAT.out HX.out HY.out (by rw [HLN.out]; omega) HRW.out HBE.out (by rw [HZY.out, Nat.mul_zero, Nat.add_zero, Int.natCast_add])
            have K1 := hide k1
            have K2 := hide k2
            have K3 := hide k3
            have K4 := hide k4
            have HC0 : Hid ((c + lm out (i + j) + lm X i * lm Y j) / 65536 = 0) := hide (by
              have h1 := K1.out
              rcases Nat.eq_zero_or_pos ((c + lm out (i + j) + lm X i * lm Y j) / 65536) with h | h
              · exact h
              · have := h1.room HX.out HY.out h; omega)
            clear k1 k2 k3 k4
            go_roundw
            case rel => exact ⟨j + 1, _, _, by omega, by go_num, K2.out, K1.out.c1, .inr HC0.out, K1.out, K3.out, K4.out⟩
            case measure => simp [intOf]; omega
        · have hc0 : c = 0 := by omega
          have hjY : Y.length ≤ j := by omega
          subst hc0
          clear hat hrow hbel
          go_wp2
          go_roundw
          case rel => exact ⟨i + 1, out, by omega, by go_num, HAT.out.last hjY, HRW.out, HBE.out⟩
          case measure => simp [intOf]; omega
    · have e : i = X.length := by omega
      subst e
      have hx0 := HXB.out.cell0
      have hy0 := HYB.out.cell0
      have HOW := hide (HRW.out.nums HAT.out.len (dok HAT.out.ok))
      have HWV := hide (HAT.out.whole (Nat.le_refl _))
      have HRB := hide (HE.out.2.2.1.below HBE.out (by have := HTV.out; omega))
      have HBW := hide (HE.out.2.2.2.trans (HBE.out.mono (by have := HTV.out; omega)))
      go_wp2_with fail
      refine (rnorm2_any (b1 != b2) _ out _ HOW.out HAT.out.ok).mono ?_
      rintro e w2 ⟨v2', rfl, ⟨b', n', a'', c'', rfl, hn', he, h0⟩, hb2⟩
      have HX2 := hide (HRB.out.step hb2)
      have HB2 := hide (HBW.out.trans (hb2.mono HBW.out.size))
      clear hb2 hx0 hy0 hxb
      have hc0 := HX2.out.cell0
      have hc1 := HX2.out.cell1
      have hf0 := HX2.out.free 0
      have hf1 := HX2.out.free 1
      go_wp2
      refine ret_ref rfl (w.heap.size + 1 + 1) _ _ _ _ rfl ((HX2.out.set0 _).set1 _) rfl ?_
      refine rhanded HX2.out (by simp) (by simp) (by omega) HB2.out hn' ?_ h0
      rw [← he, HWV.out, HV1.out, HV2.out, sg_mul]
end Go.Proofs.YtdafdfgkfkanjaaDoor

namespace Go.Proofs.YtdafdfgkfkanjaaDoor
open Go.RowKit

structure RVar (w : World) (g : Nat) (s : Bool) (m : Option Addr) (n c : Nat) (z : Int) : Prop where
  box : Box2 w g 54 (.bool s) (.slice m n c)
  int : RInt w (.agg #[.bool s, .slice m n c]) z
theorem RVar.step {w w' : World} {g : Nat} {s : Bool} {m : Option Addr} {n c : Nat} {z : Int} (h : RVar w g s m n c z) (hb : Below w.heap.size w w') : RVar w' g s m n c z := ⟨h.box.step hb, h.int.below hb⟩
theorem RVar.drew {w : World} {g : Nat} {s : Bool} {m : Option Addr} {n c : Nat} {z : Int} (h : RVar w g s m n c z) : RVar w.drew g s m n c z := ⟨h.box.drew, h.int.drew⟩
theorem RInt.var {w : World} {s : Bool} {m : Option Addr} {n c : Nat} {z : Int} (h : RInt w (.agg #[.bool s, .slice m n c]) z) : RVar (w.alloc (.cells #[.bool s, .slice m n c] 54)) w.heap.size s m n c z := ⟨Box2.new _ _ _ _, h.below (below_alloc _ _)⟩

theorem SzI.dlen {k : Nat} {z : Int} (h : SzI k z) (hk : 2 * k ≤ 100000000) : (D.lim z.natAbs).length ≤ 100000000 := by
  refine Nat.le_trans (D.lim_length_le (k := 2 * k) ?_) hk
  have : BB ^ k = D.BB ^ (2 * k) := bb_pow k
  unfold SzI at h
  rw [← this]; exact h
theorem SzI.word {c : Int} (hlo : -9223372036854775808 ≤ c) (hhi : c ≤ 9223372036854775807) : SzI 2 c := by
  unfold SzI BB; omega
theorem SzI.abs {k : Nat} {z : Int} (h : SzI k z) : SzI k (z.natAbs : Int) := by
  unfold SzI at *; simpa using h

end Go.Proofs.YtdafdfgkfkanjaaDoor

namespace Go.Proofs.YtdafdfgkfkanjaaDoor
open Go.RowKit

/-- a number and a word are handed back -/
theorem ret_rat1 {fn : Func} {R : Ending → World → Prop} {a : Act} {w : World} {p u : Tmp} (h : fn.results = #[.cell p 54, .tmp u]) (g : Nat) (x y : Value)
    (hp : a.tmps.getD p undef = .pointer (some ⟨g, 0, none⟩)) (hg : Box2 w g 54 x y) (hd : a.defers = []) (hR : R (.returned (.tuple #[.agg #[x, y], a.tmps.getD u undef])) w) : bodyPost Tryd.prog fn R .ret a w := by
  refine bodyPost_ret ?_ hd hR
  have hp' : a.tmps[p]?.getD undef = .pointer (some ⟨g, 0, none⟩) := by simpa using hp
  simp [results, h, hp', asAddr, run_loadVar_row w g 54 54 #[x, y] (0, 0) _ hg Tryd.underlying54 rfl Tryd.infoRef]
theorem rzero (w : World) : RInt w (.agg #[.bool false, .slice none 0 0]) 0 := ⟨false, 0, none, 0, rfl, Nums.nil_mk _ _ _ (Nat.zero_le _), rfl, fun _ => rfl⟩
theorem nv_dlen (s : ByteArray) (k : Nat) (h : Good s k) (hk : k ≤ 65536) : (D.lim (Int.natAbs (nv s k : Int))).length ≤ 100000000 ∧ (D.lim (Int.natAbs ((nv s k : Int) * 10))).length ≤ 100000000 := by
  have h1 := nv_lt s k h
  have h2 : 10 ^ k ≤ D.BB ^ k := Nat.pow_le_pow_left (by decide) _
  have h3 : 10 ^ (k + 1) ≤ D.BB ^ (k + 1) := Nat.pow_le_pow_left (by decide) _
  constructor
  · refine Nat.le_trans (D.lim_length_le (k := k) ?_) (by omega)
    rw [Int.natAbs_natCast]; omega
  · refine Nat.le_trans (D.lim_length_le (k := k + 1) ?_) (by omega)
    rw [show ((nv s k : Int) * 10) = ((nv s k * 10 : Nat) : Int) by omega, Int.natAbs_natCast]
    rw [pow_succ10] at h3
    omega
theorem dig_len (x : Nat) (h : x ≤ 9) : (D.lim (Int.natAbs (x : Int))).length ≤ 100000000 :=
  Nat.le_trans (D.lim_length_le (k := 1) (by rw [Int.natAbs_natCast]; unfold D.BB; omega)) (by decide)
theorem dig_wrap64 (x : Nat) (h : x ≤ 9) : IntKind.i64.wrap (IntKind.u8.wrap (48 + (x : Int) - 48)) = (x : Int) := by rw [IntKind.wrap_i64, IntKind.wrap_u8]; omega
theorem cutP_no {s : ByteArray} (h : hp s 45 = false) : cutP s 45 = s := by unfold cutP; rw [h]; rfl
theorem cutP_yes {s : ByteArray} (h : hp s 45 = true) : cutP s 45 = rest1 s := by unfold cutP; rw [h]; rfl

set_option maxRecDepth 100000 in
set_option maxHeartbeats 4000000 in
theorem rread2_any (s : ByteArray) (w : World) (hs : s.size ≤ 65536) :
    Calls Tryd.prog 25 #[.string s] w fun e w' => ∃ v z p, e = .returned (.tuple #[v, .int .i64 p]) ∧ RInt w' v z ∧ ((∃ a b : Nat, IRd s 0 a b ∧ a ≠ 0 ∧ z = 0 ∧ p = (b : Int)) ∨ (IRd s z 0 0 ∧ p = -1)) ∧ Below w.heap.size w w' := by
  have HE := hide (nboxes2 54 w (.bool false) (.slice none 0 0) (.bool false) (.slice none 0 0))
  go_enter Tryd.func25, Tryd.ntmps25
  cases hc : hp s 45 with
  | false =>
    obtain ⟨d, hd⟩ : ∃ d, d = s := ⟨_, rfl⟩
    have HDS : Hid (s.size = d.size) := hide (by rw [hd])
    have HBT : Hid (∀ k, bt d k = bt s k) := hide (fun k => by rw [hd])
    have HRD : Hid (∀ xs a b, Rd d xs a b → a ≠ 0 → ∀ i, i = b + 0 → IRd s 0 a i) := hide (fun xs a b h ha i hi => .inr (.inr ⟨hs, by rw [hc]; simp, xs, a, b, by rw [cutP_no hc, ← hd]; exact h, .inl ⟨ha, rfl, rfl, by rw [cutP_no hc]; omega⟩⟩))
    have HRZ0 : Hid (0 < s.size → Good d d.size → IRd s (sg false (nv d d.size)) 0 0) := hide (fun h0 hg => .inr (.inr ⟨hs, by rw [hc]; simp, _, 0, 0, by rw [cutP_no hc, ← hd]; exact .inr (.inr (.inr ⟨by rw [hd]; exact hs, by rw [hd]; exact h0, hg, rfl, rfl, rfl⟩)), .inr ⟨rfl, by rw [hc, val_lim], rfl, rfl⟩⟩))
    have HC := hide hc
    clear hc hd
    by_cases h0 : s.size = 0
    · go_wp2
      refine ret_rat1 rfl w.heap.size _ _ rfl (Box2.new _ _ _ _) rfl ?_
      exact ⟨_, 0, 0, rfl, rzero _, .inl ⟨6, 0, HRD.out [] 6 0 (.inr (.inl ⟨by have := HDS.out; omega, rfl, rfl, rfl⟩)) (by decide) 0 rfl, by decide, rfl, rfl⟩, below_alloc _ _⟩
    · have hz0 : 0 < s.size := by omega
      have HRZ := hide (HRZ0.out hz0)
      have hb0 := bt_get s 0 hz0
      have hn45 : bt s 0 ≠ 45 := hp_no HC.out hz0
      have hne : (((bt s 0 : Nat) : Int) == 45) = false := by rw [beq_eq_false_iff_ne]; omega
      have hse : ¬ s = ByteArray.empty := fun h => by rw [h] at hz0; exact absurd hz0 (by decide)
      clear h0 HRZ0 hn45
      by_cases c1 : bt s 0 < 48
      · go_wp2
        refine ret_rat1 rfl w.heap.size _ _ rfl (Box2.new _ _ _ _) rfl ?_
        exact ⟨_, 0, 0, rfl, rzero _, .inl ⟨6, 0, HRD.out [] 6 0 (.inr (.inr (.inl ⟨by have := HDS.out; omega, 0, by have := HDS.out; omega, Good.zero _, fun f => by have := f.lo; rw [HBT.out] at this; omega, rfl, rfl, rfl⟩))) (by decide) 0 rfl, by decide, rfl, rfl⟩, below_alloc _ _⟩
      by_cases c2 : 57 < bt s 0
      · go_wp2
        refine ret_rat1 rfl w.heap.size _ _ rfl (Box2.new _ _ _ _) rfl ?_
        exact ⟨_, 0, 0, rfl, rzero _, .inl ⟨6, 0, HRD.out [] 6 0 (.inr (.inr (.inl ⟨by have := HDS.out; omega, 0, by have := HDS.out; omega, Good.zero _, fun f => by have := f.hi; rw [HBT.out] at this; omega, rfl, rfl, rfl⟩))) (by decide) 0 rfl, by decide, rfl, rfl⟩, below_alloc _ _⟩
      go_wp2
      have HB := hide HE.out.2.2
      have HR := hide HE.out.1
      have HO : Hid (RVar _ (w.heap.size + 1) false none 0 0 (nv d (0 - 0) : Int)) := hide ⟨HE.out.2.1, rzero _⟩
      clear HE hne c1 c2 hb0
      go_loopw [6] (fun iv wr => ∃ i : Nat, 0 ≤ i ∧ i ≤ s.size ∧ iv = .int .i64 i ∧ Good d (i - 0) ∧ Below w.heap.size w wr ∧ Box2 wr w.heap.size 54 (.bool false) (.slice none 0 0) ∧ ∃ sb m n c, RVar wr (w.heap.size + 1) sb m n c (nv d (i - 0) : Int)) (fun iv _ => s.size - (intOf iv).toNat)
      case atStart => exact ⟨0, Nat.le_refl _, by omega, rfl, Good.zero _, HB.out, HR.out, _, _, _, _, HO.out⟩
      case round =>
        clear HB HR HO
        obtain ⟨i, hi1, hi2, rfl, hg, hB, hR, sb, m, n, c, hV⟩ := hrel
        have HG := hide hg
        have HB := hide hB
        have HR := hide hR
        have HV := hide hV
        clear hg hB hR hV
        by_cases hlt : i < s.size
        · have hb := bt_get s i hlt
          have hbt := bt_get s 0 (by omega)
          have HEI : Hid (bt s i = bt d (i - 0)) := hide (by rw [HBT.out (i - 0)]; congr 1)
          have HE0 : Hid (bt s 0 = bt d 0) := hide (by rw [HBT.out 0])
          by_cases c1 : bt s i < 48
          · skip
            have hr0 := HR.out.cell0
            have hr1 := HR.out.cell1
            have hf0 := HR.out.free 0
            have hf1 := HR.out.free 1
            go_wp2
            refine ret_rat1 rfl w.heap.size _ _ rfl (HR.out.put _ _) rfl ?_
            exact ⟨_, 0, i, rfl, rzero _, .inl ⟨6, i, HRD.out _ 6 (i - 0) (.inr (.inr (.inl ⟨by have := HDS.out; omega, (i - 0), by have := HDS.out; omega, HG.out, fun f => by have := f.lo; have := HEI.out; omega, rfl, rfl, rfl⟩))) (by decide) i (by omega), by decide, rfl, rfl⟩, below_put HB.out (Nat.le_refl _) _ _⟩
          by_cases c2 : 57 < bt s i
          · skip
            have hr0 := HR.out.cell0
            have hr1 := HR.out.cell1
            have hf0 := HR.out.free 0
            have hf1 := HR.out.free 1
            go_wp2
            refine ret_rat1 rfl w.heap.size _ _ rfl (HR.out.put _ _) rfl ?_
            exact ⟨_, 0, i, rfl, rzero _, .inl ⟨6, i, HRD.out _ 6 (i - 0) (.inr (.inr (.inl ⟨by have := HDS.out; omega, (i - 0), by have := HDS.out; omega, HG.out, fun f => by have := f.hi; have := HEI.out; omega, rfl, rfl, rfl⟩))) (by decide) i (by omega), by decide, rfl, rfl⟩, below_put HB.out (Nat.le_refl _) _ _⟩
          by_cases c3 : i = 1 ∧ bt s 0 = 48
          · obtain ⟨c3, c4⟩ := c3
            subst c3
            rw [c4] at hbt
            have hr0 := HR.out.cell0
            have hr1 := HR.out.cell1
            have hf0 := HR.out.free 0
            have hf1 := HR.out.free 1
            go_wp2
            refine ret_rat1 rfl w.heap.size _ _ rfl (HR.out.put _ _) rfl ?_
            exact ⟨_, 0, 1, rfl, rzero _, .inl ⟨6, 1, HRD.out _ 6 (1 - 0) (.inr (.inr (.inl ⟨by have := HDS.out; omega, (1 - 0), by have := HDS.out; omega, HG.out, fun f => f.lead (by omega) (by have := HE0.out; omega), rfl, rfl, rfl⟩))) (by decide) 1 (by omega), by decide, rfl, rfl⟩, below_put HB.out (Nat.le_refl _) _ _⟩
          have HF0 := hide (show Fine d (i - 0) from ⟨by have := HEI.out; omega, by have := HEI.out; omega, fun h1 h2 => by
            have f1 := HG.out 0 (by omega)
            by_cases h3 : i = 1
            · exact c3 ⟨h3, by have := HE0.out; omega⟩
            · exact (HG.out 1 (by omega)).lead (Nat.le_refl _) h2⟩)
          obtain ⟨x, hx⟩ : ∃ x, bt s i = 48 + x := ⟨bt s i - 48, by omega⟩
          have h9 : x ≤ 9 := by omega
          have HX : Hid (nv d (i + 1 - 0) = nv d (i - 0) * 10 + x) := hide (by rw [show i + 1 - 0 = (i - 0) + 1 by omega, nv, ← HEI.out, hx]; omega)
          have HLN := hide (nv_dlen d (i - 0) HG.out (by omega))
          rw [hx] at hb
          by_cases h3 : i = 1
          · subst h3
            have h4' : (((bt s 0 : Nat) : Int) == 48) = false := by rw [beq_eq_false_iff_ne]; intro h4; exact c3 ⟨rfl, by omega⟩
            clear c3 hx
            go_wp2_with fail
            refine wp_calm (fun w' => Below w.heap.size w w' ∧ Box2 w' w.heap.size 54 (.bool false) (.slice none 0 0) ∧ RVar w' (w.heap.size + 1) sb m n c (nv d (1 - 0) : Int)) (fun j => j != 10) 11 #[false, false, false, false, false, false, false, false, false, false, false] (by kernel_rfl) rfl rfl ?_
            have HF := hide (And.intro (HB.out.drew) (And.intro (HR.out.drew) (HV.out.drew)))
            generalize wr.drew = wrd at *
            refine Calm.take (i := 0) (v := ?_) (a' := ?_) (l' := #[true, false, false, false, false, false, false, false, false, false, false]) (d := some 74) rfl (by kernel_rfl) (by kernel_rfl) (by kernel_rfl) (by kernel_rfl) (fun _ _ _ h => h) HF.out rfl ?_ rfl rfl ?_ ?_
            rotate_left
            · intro w' hF; have f10 := hF.2.1.cell0; have f11 := hF.2.1.cell1; have f20 := hF.2.2.box.cell0; have f21 := hF.2.2.box.cell1; clear hF; go_simp; try rfl
            rotate_left
            · simp only [Act.put]; exact rfl
            refine Calm.take (i := 3) (v := ?_) (a' := ?_) (l' := #[true, false, false, true, false, false, false, false, false, false, false]) (d := some 77) rfl (by kernel_rfl) (by kernel_rfl) (by kernel_rfl) (by kernel_rfl) (fun _ _ _ h => h) HF.out rfl ?_ rfl rfl ?_ ?_
            rotate_left
            · intro w' hF; clear hF; go_simp; try rfl
            rotate_left
            · simp only [Act.put]; exact rfl
            refine Calm.take (i := 4) (v := ?_) (a' := ?_) (l' := #[true, false, false, true, true, false, false, false, false, false, false]) (d := some 78) rfl (by kernel_rfl) (by kernel_rfl) (by kernel_rfl) (by kernel_rfl) (fun _ _ _ h => h) HF.out rfl ?_ rfl rfl ?_ ?_
            rotate_left
            · intro w' hF; clear hF; go_simp; try rfl
            rotate_left
            · simp only [Act.put]; exact rfl
            refine Calm.take (i := 5) (v := ?_) (a' := ?_) (l' := #[true, false, false, true, true, true, false, false, false, false, false]) (d := some 79) rfl (by kernel_rfl) (by kernel_rfl) (by kernel_rfl) (by kernel_rfl) (fun _ _ _ h => h) HF.out rfl ?_ rfl rfl ?_ ?_
            rotate_left
            · intro w' hF; clear hF; go_simp; try rfl
            rotate_left
            · simp only [Act.put]; exact rfl
            refine Calm.take (i := 6) (v := ?_) (a' := ?_) (l' := #[true, false, false, true, true, true, true, false, false, false, false]) (d := some 80) rfl (by kernel_rfl) (by kernel_rfl) (by kernel_rfl) (by kernel_rfl) (fun _ _ _ h => h) HF.out rfl ?_ rfl rfl ?_ ?_
            rotate_left
            · intro w' hF; clear hF; go_simp; try rfl
            rotate_left
            · simp only [Act.put]; exact rfl
            refine Calm.take (i := 7) (v := ?_) (a' := ?_) (l' := #[true, false, false, true, true, true, true, true, false, false, false]) (d := some 81) rfl (by kernel_rfl) (by kernel_rfl) (by kernel_rfl) (by kernel_rfl) (fun _ _ _ h => h) HF.out rfl ?_ rfl rfl ?_ ?_
            rotate_left
            · intro w' hF; clear hF; go_simp; try rfl
            rotate_left
            · simp only [Act.put]; exact rfl
            refine Calm.one (i := 1) (l' := #[true, true, false, true, true, true, true, true, false, false, false]) (by kernel_rfl) rfl rfl rfl fun K hK => ?_
            go_simp
            refine (rof_any 10 _ (by decide) (by decide)).mono ?_
            rintro e u1 ⟨v1, rfl, n1, hb⟩
            have HF' := hide (And.intro (HF.out.1.trans ((hb).mono HF.out.1.size)) (And.intro (HF.out.2.1.step (hb)) (HF.out.2.2.step (hb))))
            have T1 := hide (n1)
            refine hK _ _ (fun _ => HF'.out) ?_
            clear hK K HF hb n1
            have HF := hide HF'.out
            clear HF'
            refine Calm.one (i := 2) (l' := #[true, true, true, true, true, true, true, true, false, false, false]) (by kernel_rfl) rfl rfl rfl fun K hK => ?_
            go_simp
            refine (rmul2_any _ _ (nv d (1 - 0) : Int) 10 _ HF.out.2.2.int T1.out HLN.out.1 (by decide)).mono ?_
            rintro e u2 ⟨v2, rfl, n2, hb⟩
            clear T1
            have HF' := hide (And.intro (HF.out.1.trans ((hb).mono HF.out.1.size)) (And.intro (HF.out.2.1.step (hb)) (HF.out.2.2.step (hb))))
            have T2 := hide (n2)
            refine hK _ _ (fun _ => HF'.out) ?_
            clear hK K HF hb n2
            have HF := hide HF'.out
            clear HF'
            refine Calm.one (i := 8) (l' := #[true, true, true, true, true, true, true, true, true, false, false]) (by kernel_rfl) rfl rfl rfl fun K hK => ?_
            go_simp
            rw [dig_wrap64 x h9]
            refine (rof_any (x : Int) _ (by omega) (by omega)).mono ?_
            rintro e u3 ⟨v3, rfl, n3, hb⟩
            replace T2 := hide (T2.out.below (hb))
            have HF' := hide (And.intro (HF.out.1.trans ((hb).mono HF.out.1.size)) (And.intro (HF.out.2.1.step (hb)) (HF.out.2.2.step (hb))))
            have T3 := hide (n3)
            refine hK _ _ (fun _ => HF'.out) ?_
            clear hK K HF hb n3
            have HF := hide HF'.out
            clear HF'
            refine Calm.one (i := 9) (l' := #[true, true, true, true, true, true, true, true, true, true, false]) (by kernel_rfl) rfl rfl rfl fun K hK => ?_
            go_simp
            refine (radd2_any _ _ ((nv d (1 - 0) : Int) * 10) (x : Int) _ T2.out T3.out HLN.out.2 (dig_len x h9)).mono ?_
            rintro e u4 ⟨v4, rfl, n4, hb⟩
            obtain ⟨b4, k4, a4, c4, rfl, m4, e4, z4⟩ := n4
            have n4 : RInt u4 (.agg #[.bool b4, .slice a4 (D.lim k4).length c4]) (((nv d (1 - 0) : Int) * 10) + (x : Int)) := ⟨b4, k4, a4, c4, rfl, m4, e4, z4⟩
            clear T2
            clear T3
            have HF' := hide (And.intro (HF.out.1.trans ((hb).mono HF.out.1.size)) (And.intro (HF.out.2.1.step (hb)) (HF.out.2.2.step (hb))))
            have T4 := hide (n4)
            refine hK _ _ (fun _ => HF'.out) ?_
            clear hK K HF hb n4 m4 e4 z4
            have HF := hide HF'.out
            clear HF'
            refine Calm.one (i := 10) (l' := #[true, true, true, true, true, true, true, true, true, true, true]) (by kernel_rfl) rfl rfl rfl fun K hK => ?_
            have hc0 := HF.out.2.2.box.cell0
            have hc1 := HF.out.2.2.box.cell1
            have hf0 := HF.out.2.2.box.free 0
            have hf1 := HF.out.2.2.box.free 1
            go_simp
            refine hK _ _ (fun h => absurd h (by decide)) ?_
            clear hK K
            refine Calm.done (by kernel_rfl) ?_
            go_wp2
            go_roundw
            case rel => exact ⟨1 + 1, by omega, by omega, by go_num, by rw [show 1 + 1 - 0 = 1 - 0 + 1 by omega]; exact HG.out.succ HF0.out, below_put HF.out.1 (Nat.le_succ _) _ _, HF.out.2.1.other (by omega) _ _, b4, a4, _, c4, ⟨HF.out.2.2.box.put _ _, by rw [HX.out]; have := T4.out.keep (keeps2 HF.out.2.2.box (by simp) (by simp) (.bool b4) (.slice a4 (D.lim k4).length c4)); simpa using this⟩⟩
            case measure => simp [intOf]; omega
          · have h3' : ((i : Int) == 1) = false := by rw [beq_eq_false_iff_ne]; omega
            clear c3 hx h3
            go_wp2_with fail
            refine wp_calm (fun w' => Below w.heap.size w w' ∧ Box2 w' w.heap.size 54 (.bool false) (.slice none 0 0) ∧ RVar w' (w.heap.size + 1) sb m n c (nv d (i - 0) : Int)) (fun j => j != 10) 11 #[false, false, false, false, false, false, false, false, false, false, false] (by kernel_rfl) rfl rfl ?_
            have HF := hide (And.intro (HB.out.drew) (And.intro (HR.out.drew) (HV.out.drew)))
            generalize wr.drew = wrd at *
            refine Calm.take (i := 0) (v := ?_) (a' := ?_) (l' := #[true, false, false, false, false, false, false, false, false, false, false]) (d := some 74) rfl (by kernel_rfl) (by kernel_rfl) (by kernel_rfl) (by kernel_rfl) (fun _ _ _ h => h) HF.out rfl ?_ rfl rfl ?_ ?_
            rotate_left
            · intro w' hF; have f10 := hF.2.1.cell0; have f11 := hF.2.1.cell1; have f20 := hF.2.2.box.cell0; have f21 := hF.2.2.box.cell1; clear hF; go_simp; try rfl
            rotate_left
            · simp only [Act.put]; exact rfl
            refine Calm.take (i := 3) (v := ?_) (a' := ?_) (l' := #[true, false, false, true, false, false, false, false, false, false, false]) (d := some 77) rfl (by kernel_rfl) (by kernel_rfl) (by kernel_rfl) (by kernel_rfl) (fun _ _ _ h => h) HF.out rfl ?_ rfl rfl ?_ ?_
            rotate_left
            · intro w' hF; clear hF; go_simp; try rfl
            rotate_left
            · simp only [Act.put]; exact rfl
            refine Calm.take (i := 4) (v := ?_) (a' := ?_) (l' := #[true, false, false, true, true, false, false, false, false, false, false]) (d := some 78) rfl (by kernel_rfl) (by kernel_rfl) (by kernel_rfl) (by kernel_rfl) (fun _ _ _ h => h) HF.out rfl ?_ rfl rfl ?_ ?_
            rotate_left
            · intro w' hF; clear hF; go_simp; try rfl
            rotate_left
            · simp only [Act.put]; exact rfl
            refine Calm.take (i := 5) (v := ?_) (a' := ?_) (l' := #[true, false, false, true, true, true, false, false, false, false, false]) (d := some 79) rfl (by kernel_rfl) (by kernel_rfl) (by kernel_rfl) (by kernel_rfl) (fun _ _ _ h => h) HF.out rfl ?_ rfl rfl ?_ ?_
            rotate_left
            · intro w' hF; clear hF; go_simp; try rfl
            rotate_left
            · simp only [Act.put]; exact rfl
            refine Calm.take (i := 6) (v := ?_) (a' := ?_) (l' := #[true, false, false, true, true, true, true, false, false, false, false]) (d := some 80) rfl (by kernel_rfl) (by kernel_rfl) (by kernel_rfl) (by kernel_rfl) (fun _ _ _ h => h) HF.out rfl ?_ rfl rfl ?_ ?_
            rotate_left
            · intro w' hF; clear hF; go_simp; try rfl
            rotate_left
            · simp only [Act.put]; exact rfl
            refine Calm.take (i := 7) (v := ?_) (a' := ?_) (l' := #[true, false, false, true, true, true, true, true, false, false, false]) (d := some 81) rfl (by kernel_rfl) (by kernel_rfl) (by kernel_rfl) (by kernel_rfl) (fun _ _ _ h => h) HF.out rfl ?_ rfl rfl ?_ ?_
            rotate_left
            · intro w' hF; clear hF; go_simp; try rfl
            rotate_left
            · simp only [Act.put]; exact rfl
            refine Calm.one (i := 1) (l' := #[true, true, false, true, true, true, true, true, false, false, false]) (by kernel_rfl) rfl rfl rfl fun K hK => ?_
            go_simp
            refine (rof_any 10 _ (by decide) (by decide)).mono ?_
            rintro e u1 ⟨v1, rfl, n1, hb⟩
            have HF' := hide (And.intro (HF.out.1.trans ((hb).mono HF.out.1.size)) (And.intro (HF.out.2.1.step (hb)) (HF.out.2.2.step (hb))))
            have T1 := hide (n1)
            refine hK _ _ (fun _ => HF'.out) ?_
            clear hK K HF hb n1
            have HF := hide HF'.out
            clear HF'
            refine Calm.one (i := 2) (l' := #[true, true, true, true, true, true, true, true, false, false, false]) (by kernel_rfl) rfl rfl rfl fun K hK => ?_
            go_simp
            refine (rmul2_any _ _ (nv d (i - 0) : Int) 10 _ HF.out.2.2.int T1.out HLN.out.1 (by decide)).mono ?_
            rintro e u2 ⟨v2, rfl, n2, hb⟩
            clear T1
            have HF' := hide (And.intro (HF.out.1.trans ((hb).mono HF.out.1.size)) (And.intro (HF.out.2.1.step (hb)) (HF.out.2.2.step (hb))))
            have T2 := hide (n2)
            refine hK _ _ (fun _ => HF'.out) ?_
            clear hK K HF hb n2
            have HF := hide HF'.out
            clear HF'
            refine Calm.one (i := 8) (l' := #[true, true, true, true, true, true, true, true, true, false, false]) (by kernel_rfl) rfl rfl rfl fun K hK => ?_
            go_simp
            rw [dig_wrap64 x h9]
            refine (rof_any (x : Int) _ (by omega) (by omega)).mono ?_
            rintro e u3 ⟨v3, rfl, n3, hb⟩
            replace T2 := hide (T2.out.below (hb))
            have HF' := hide (And.intro (HF.out.1.trans ((hb).mono HF.out.1.size)) (And.intro (HF.out.2.1.step (hb)) (HF.out.2.2.step (hb))))
            have T3 := hide (n3)
            refine hK _ _ (fun _ => HF'.out) ?_
            clear hK K HF hb n3
            have HF := hide HF'.out
            clear HF'
            refine Calm.one (i := 9) (l' := #[true, true, true, true, true, true, true, true, true, true, false]) (by kernel_rfl) rfl rfl rfl fun K hK => ?_
            go_simp
            refine (radd2_any _ _ ((nv d (i - 0) : Int) * 10) (x : Int) _ T2.out T3.out HLN.out.2 (dig_len x h9)).mono ?_
            rintro e u4 ⟨v4, rfl, n4, hb⟩
            obtain ⟨b4, k4, a4, c4, rfl, m4, e4, z4⟩ := n4
            have n4 : RInt u4 (.agg #[.bool b4, .slice a4 (D.lim k4).length c4]) (((nv d (i - 0) : Int) * 10) + (x : Int)) := ⟨b4, k4, a4, c4, rfl, m4, e4, z4⟩
            clear T2
            clear T3
            have HF' := hide (And.intro (HF.out.1.trans ((hb).mono HF.out.1.size)) (And.intro (HF.out.2.1.step (hb)) (HF.out.2.2.step (hb))))
            have T4 := hide (n4)
            refine hK _ _ (fun _ => HF'.out) ?_
            clear hK K HF hb n4 m4 e4 z4
            have HF := hide HF'.out
            clear HF'
            refine Calm.one (i := 10) (l' := #[true, true, true, true, true, true, true, true, true, true, true]) (by kernel_rfl) rfl rfl rfl fun K hK => ?_
            have hc0 := HF.out.2.2.box.cell0
            have hc1 := HF.out.2.2.box.cell1
            have hf0 := HF.out.2.2.box.free 0
            have hf1 := HF.out.2.2.box.free 1
            go_simp
            refine hK _ _ (fun h => absurd h (by decide)) ?_
            clear hK K
            refine Calm.done (by kernel_rfl) ?_
            go_wp2
            go_roundw
            case rel => exact ⟨i + 1, by omega, by omega, by go_num, by rw [show i + 1 - 0 = i - 0 + 1 by omega]; exact HG.out.succ HF0.out, below_put HF.out.1 (Nat.le_succ _) _ _, HF.out.2.1.other (by omega) _ _, b4, a4, _, c4, ⟨HF.out.2.2.box.put _ _, by rw [HX.out]; have := T4.out.keep (keeps2 HF.out.2.2.box (by simp) (by simp) (.bool b4) (.slice a4 (D.lim k4).length c4)); simpa using this⟩⟩
            case measure => simp [intOf]; omega
        · have e : i = s.size := by omega
          subst e
          clear hi1 hi2 hlt
          have hv1 := HV.out.box.cell1
          have hv0 := HV.out.box.cell0
          obtain ⟨b4, k4, a4, c4, e3, m4, e4, z4⟩ := HV.out.int
          simp only [Value.agg.injEq, Array.mk.injEq, List.cons.injEq, Value.bool.injEq, Value.slice.injEq, and_true] at e3
          obtain ⟨rfl, rfl, rfl, rfl⟩ := e3
          have HK : Hid (k4 = nv d d.size) := hide (by have h1 := congrArg Int.natAbs e4; rw [sg_abs, Int.natAbs_natCast, show s.size - 0 = d.size by have := HDS.out; omega] at h1; exact h1.symm)
          have HM := hide m4
          clear m4 e4 z4
          go_wp2_with fail
          refine (rnorm2_any false _ (D.lim k4) _ HM.out (D.ok_lim k4)).mono ?_
          rintro e w2 ⟨v2, rfl, hr2, hb2⟩
          rw [D.val_lim, HK.out] at hr2
          obtain ⟨b5, k5, a5, c5, rfl, m5, e5, z5⟩ := hr2
          replace HR := hide (HR.out.step hb2)
          replace HB := hide (HB.out.trans (hb2.mono HB.out.size))
          have hc0 := HR.out.cell0
          have hc1 := HR.out.cell1
          have hf0 := HR.out.free 0
          have hf1 := HR.out.free 1
          clear hb2 hv0 hv1
          go_wp2
          refine ret_rat1 rfl w.heap.size _ _ rfl (HR.out.put _ _) rfl ?_
          exact ⟨_, _, -1, rfl, ⟨b5, k5, a5, c5, rfl, keeps2 HR.out (by simp) (by simp) _ _ _ _ m5, e5, z5⟩, .inr ⟨HRZ.out (show Good d d.size by have := HG.out; rwa [show s.size - 0 = d.size by have := HDS.out; omega] at this), rfl⟩, below_put HB.out (Nat.le_refl _) _ _⟩
  | true =>
    obtain ⟨hz0, hm0⟩ := hp_yes hc
    have hm : bt s 0 = 45 := hm0
    clear hm0
    obtain ⟨d, hd⟩ : ∃ d, d = rest1 s := ⟨_, rfl⟩
    have HDS : Hid (s.size = d.size + 1) := hide (by rw [hd, rest1_size]; omega)
    have HBT : Hid (∀ k, bt d k = bt s (k + 1)) := hide (fun k => by rw [hd, bt_rest])
    have HB48 : Hid (bt s 1 = 48 → 1 < s.size → IRd s 0 6 1) := hide (fun h1 h2 => .inr (.inl ⟨hs, hc, by unfold hp; exact decide_eq_true ⟨by rw [rest1_size]; omega, by rw [bt_rest]; exact h1⟩, rfl, rfl, rfl⟩))
    have HRD : Hid (∀ xs a b, Rd d xs a b → a ≠ 0 → ∀ i, i = b + 1 → bt d 0 ≠ 48 → IRd s 0 a i) := hide (fun xs a b h ha i hi h48 => .inr (.inr ⟨hs, fun h => h48 (by rw [hd]; exact (hp_yes h.2).2), xs, a, b, by rw [cutP_yes hc, ← hd]; exact h, .inl ⟨ha, rfl, rfl, by rw [cutP_yes hc, rest1_size]; omega⟩⟩))
    have HRZ0 : Hid (0 < d.size → bt d 0 ≠ 48 → Good d d.size → IRd s (sg true (nv d d.size)) 0 0) := hide (fun h0 h48 hg => .inr (.inr ⟨hs, fun h => h48 (by rw [hd]; exact (hp_yes h.2).2), _, 0, 0, by rw [cutP_yes hc, ← hd]; exact .inr (.inr (.inr ⟨by rw [hd, rest1_size]; omega, h0, hg, rfl, rfl, rfl⟩)), .inr ⟨rfl, by rw [hc, val_lim], rfl, rfl⟩⟩))
    have HC := hide hc
    have hb0 := bt_get s 0 hz0
    rw [hm] at hb0
    clear hc hd
    by_cases h1 : s.size = 1
    · have hI : ((1 : Int) ≤ (s.size : Int)) := by omega
      have hI2 : ((s.size : Int) ≤ 1) := by omega
      go_wp2
      refine ret_rat1 rfl w.heap.size _ _ rfl (Box2.new _ _ _ _) rfl ?_
      have hd0 : d.size = 0 := by have := HDS.out; omega
      exact ⟨_, 0, 1, rfl, rzero _, .inl ⟨6, 1, HRD.out [] 6 0 (.inr (.inl ⟨hd0, rfl, rfl, rfl⟩)) (by decide) 1 rfl (by unfold bt; rw [dif_neg (by omega)]; decide), by decide, rfl, rfl⟩, below_alloc _ _⟩
    · have hz1 : 1 < s.size := by omega
      have hb1 := bt_get s 1 hz1
      by_cases c1 : bt s 1 < 48
      · go_wp2
        refine ret_rat1 rfl w.heap.size _ _ rfl (Box2.new _ _ _ _) rfl ?_
        exact ⟨_, 0, 1, rfl, rzero _, .inl ⟨6, 1, HRD.out [] 6 0 (.inr (.inr (.inl ⟨by have := HDS.out; omega, 0, by have := HDS.out; omega, Good.zero _, fun f => by have := f.lo; rw [HBT.out, Nat.zero_add] at this; omega, rfl, rfl, rfl⟩))) (by decide) 1 rfl (by rw [HBT.out, Nat.zero_add]; omega), by decide, rfl, rfl⟩, below_alloc _ _⟩
      by_cases c2 : 57 < bt s 1
      · go_wp2
        refine ret_rat1 rfl w.heap.size _ _ rfl (Box2.new _ _ _ _) rfl ?_
        exact ⟨_, 0, 1, rfl, rzero _, .inl ⟨6, 1, HRD.out [] 6 0 (.inr (.inr (.inl ⟨by have := HDS.out; omega, 0, by have := HDS.out; omega, Good.zero _, fun f => by have := f.hi; rw [HBT.out, Nat.zero_add] at this; omega, rfl, rfl, rfl⟩))) (by decide) 1 rfl (by rw [HBT.out, Nat.zero_add]; omega), by decide, rfl, rfl⟩, below_alloc _ _⟩
      by_cases c3 : bt s 1 = 48
      · rw [c3] at hb1
        go_wp2
        refine ret_rat1 rfl w.heap.size _ _ rfl (Box2.new _ _ _ _) rfl ?_
        exact ⟨_, 0, 1, rfl, rzero _, .inl ⟨6, 1, HB48.out c3 hz1, by decide, rfl, rfl⟩, below_alloc _ _⟩
      have H48 : Hid (bt d 0 ≠ 48) := hide (by rw [HBT.out, Nat.zero_add]; exact c3)
      have hne : (((bt s 1 : Nat) : Int) == 48) = false := by rw [beq_eq_false_iff_ne]; omega
      have HRZ := hide (HRZ0.out (by have := HDS.out; omega) H48.out)
      replace HRD := hide (fun xs a b h ha i hi => HRD.out xs a b h ha i hi H48.out)
      clear HRZ0 h1
      go_wp2
      have HB := hide HE.out.2.2
      have HR := hide HE.out.1
      have HO : Hid (RVar _ (w.heap.size + 1) false none 0 0 (nv d (1 - 1) : Int)) := hide ⟨HE.out.2.1, rzero _⟩
      clear HE hne c1 c2 c3 hb0 hb1
      go_loopw [6] (fun iv wr => ∃ i : Nat, 1 ≤ i ∧ i ≤ s.size ∧ iv = .int .i64 i ∧ Good d (i - 1) ∧ Below w.heap.size w wr ∧ Box2 wr w.heap.size 54 (.bool false) (.slice none 0 0) ∧ ∃ sb m n c, RVar wr (w.heap.size + 1) sb m n c (nv d (i - 1) : Int)) (fun iv _ => s.size - (intOf iv).toNat)
      case atStart => exact ⟨1, Nat.le_refl _, by omega, rfl, Good.zero _, HB.out, HR.out, _, _, _, _, HO.out⟩
      case round =>
        clear HB HR HO
        obtain ⟨i, hi1, hi2, rfl, hg, hB, hR, sb, m, n, c, hV⟩ := hrel
        have HG := hide hg
        have HB := hide hB
        have HR := hide hR
        have HV := hide hV
        clear hg hB hR hV
        by_cases hlt : i < s.size
        · have hb := bt_get s i hlt
          have hbt := bt_get s 1 (by omega)
          have HEI : Hid (bt s i = bt d (i - 1)) := hide (by rw [HBT.out (i - 1)]; congr 1; omega)
          have HE0 : Hid (bt s 1 = bt d 0) := hide (by rw [HBT.out 0])
          by_cases c1 : bt s i < 48
          · skip
            have hr0 := HR.out.cell0
            have hr1 := HR.out.cell1
            have hf0 := HR.out.free 0
            have hf1 := HR.out.free 1
            go_wp2
            refine ret_rat1 rfl w.heap.size _ _ rfl (HR.out.put _ _) rfl ?_
            exact ⟨_, 0, i, rfl, rzero _, .inl ⟨6, i, HRD.out _ 6 (i - 1) (.inr (.inr (.inl ⟨by have := HDS.out; omega, (i - 1), by have := HDS.out; omega, HG.out, fun f => by have := f.lo; have := HEI.out; omega, rfl, rfl, rfl⟩))) (by decide) i (by omega), by decide, rfl, rfl⟩, below_put HB.out (Nat.le_refl _) _ _⟩
          by_cases c2 : 57 < bt s i
          · skip
            have hr0 := HR.out.cell0
            have hr1 := HR.out.cell1
            have hf0 := HR.out.free 0
            have hf1 := HR.out.free 1
            go_wp2
            refine ret_rat1 rfl w.heap.size _ _ rfl (HR.out.put _ _) rfl ?_
            exact ⟨_, 0, i, rfl, rzero _, .inl ⟨6, i, HRD.out _ 6 (i - 1) (.inr (.inr (.inl ⟨by have := HDS.out; omega, (i - 1), by have := HDS.out; omega, HG.out, fun f => by have := f.hi; have := HEI.out; omega, rfl, rfl, rfl⟩))) (by decide) i (by omega), by decide, rfl, rfl⟩, below_put HB.out (Nat.le_refl _) _ _⟩
          by_cases c3 : i = 2 ∧ bt s 1 = 48
          · obtain ⟨c3, c4⟩ := c3
            subst c3
            rw [c4] at hbt
            have hr0 := HR.out.cell0
            have hr1 := HR.out.cell1
            have hf0 := HR.out.free 0
            have hf1 := HR.out.free 1
            go_wp2
            refine ret_rat1 rfl w.heap.size _ _ rfl (HR.out.put _ _) rfl ?_
            exact ⟨_, 0, 2, rfl, rzero _, .inl ⟨6, 2, HRD.out _ 6 (2 - 1) (.inr (.inr (.inl ⟨by have := HDS.out; omega, (2 - 1), by have := HDS.out; omega, HG.out, fun f => f.lead (by omega) (by have := HE0.out; omega), rfl, rfl, rfl⟩))) (by decide) 2 (by omega), by decide, rfl, rfl⟩, below_put HB.out (Nat.le_refl _) _ _⟩
          have HF0 := hide (show Fine d (i - 1) from ⟨by have := HEI.out; omega, by have := HEI.out; omega, fun h1 h2 => by
            have f1 := HG.out 0 (by omega)
            by_cases h3 : i = 2
            · exact c3 ⟨h3, by have := HE0.out; omega⟩
            · exact (HG.out 1 (by omega)).lead (Nat.le_refl _) h2⟩)
          obtain ⟨x, hx⟩ : ∃ x, bt s i = 48 + x := ⟨bt s i - 48, by omega⟩
          have h9 : x ≤ 9 := by omega
          have HX : Hid (nv d (i + 1 - 1) = nv d (i - 1) * 10 + x) := hide (by rw [show i + 1 - 1 = (i - 1) + 1 by omega, nv, ← HEI.out, hx]; omega)
          have HLN := hide (nv_dlen d (i - 1) HG.out (by omega))
          rw [hx] at hb
          by_cases h3 : i = 2
          · subst h3
            have h4' : (((bt s 1 : Nat) : Int) == 48) = false := by rw [beq_eq_false_iff_ne]; intro h4; exact c3 ⟨rfl, by omega⟩
            clear c3 hx
            go_wp2_with fail
            refine wp_calm (fun w' => Below w.heap.size w w' ∧ Box2 w' w.heap.size 54 (.bool false) (.slice none 0 0) ∧ RVar w' (w.heap.size + 1) sb m n c (nv d (2 - 1) : Int)) (fun j => j != 10) 11 #[false, false, false, false, false, false, false, false, false, false, false] (by kernel_rfl) rfl rfl ?_
            have HF := hide (And.intro (HB.out.drew) (And.intro (HR.out.drew) (HV.out.drew)))
            generalize wr.drew = wrd at *
            refine Calm.take (i := 0) (v := ?_) (a' := ?_) (l' := #[true, false, false, false, false, false, false, false, false, false, false]) (d := some 74) rfl (by kernel_rfl) (by kernel_rfl) (by kernel_rfl) (by kernel_rfl) (fun _ _ _ h => h) HF.out rfl ?_ rfl rfl ?_ ?_
            rotate_left
            · intro w' hF; have f10 := hF.2.1.cell0; have f11 := hF.2.1.cell1; have f20 := hF.2.2.box.cell0; have f21 := hF.2.2.box.cell1; clear hF; go_simp; try rfl
            rotate_left
            · simp only [Act.put]; exact rfl
            refine Calm.take (i := 3) (v := ?_) (a' := ?_) (l' := #[true, false, false, true, false, false, false, false, false, false, false]) (d := some 77) rfl (by kernel_rfl) (by kernel_rfl) (by kernel_rfl) (by kernel_rfl) (fun _ _ _ h => h) HF.out rfl ?_ rfl rfl ?_ ?_
            rotate_left
            · intro w' hF; clear hF; go_simp; try rfl
            rotate_left
            · simp only [Act.put]; exact rfl
            refine Calm.take (i := 4) (v := ?_) (a' := ?_) (l' := #[true, false, false, true, true, false, false, false, false, false, false]) (d := some 78) rfl (by kernel_rfl) (by kernel_rfl) (by kernel_rfl) (by kernel_rfl) (fun _ _ _ h => h) HF.out rfl ?_ rfl rfl ?_ ?_
            rotate_left
            · intro w' hF; clear hF; go_simp; try rfl
            rotate_left
            · simp only [Act.put]; exact rfl
            refine Calm.take (i := 5) (v := ?_) (a' := ?_) (l' := #[true, false, false, true, true, true, false, false, false, false, false]) (d := some 79) rfl (by kernel_rfl) (by kernel_rfl) (by kernel_rfl) (by kernel_rfl) (fun _ _ _ h => h) HF.out rfl ?_ rfl rfl ?_ ?_
            rotate_left
            · intro w' hF; clear hF; go_simp; try rfl
            rotate_left
            · simp only [Act.put]; exact rfl
            refine Calm.take (i := 6) (v := ?_) (a' := ?_) (l' := #[true, false, false, true, true, true, true, false, false, false, false]) (d := some 80) rfl (by kernel_rfl) (by kernel_rfl) (by kernel_rfl) (by kernel_rfl) (fun _ _ _ h => h) HF.out rfl ?_ rfl rfl ?_ ?_
            rotate_left
            · intro w' hF; clear hF; go_simp; try rfl
            rotate_left
            · simp only [Act.put]; exact rfl
            refine Calm.take (i := 7) (v := ?_) (a' := ?_) (l' := #[true, false, false, true, true, true, true, true, false, false, false]) (d := some 81) rfl (by kernel_rfl) (by kernel_rfl) (by kernel_rfl) (by kernel_rfl) (fun _ _ _ h => h) HF.out rfl ?_ rfl rfl ?_ ?_
            rotate_left
            · intro w' hF; clear hF; go_simp; try rfl
            rotate_left
            · simp only [Act.put]; exact rfl
            refine Calm.one (i := 1) (l' := #[true, true, false, true, true, true, true, true, false, false, false]) (by kernel_rfl) rfl rfl rfl fun K hK => ?_
            go_simp
            refine (rof_any 10 _ (by decide) (by decide)).mono ?_
            rintro e u1 ⟨v1, rfl, n1, hb⟩
            have HF' := hide (And.intro (HF.out.1.trans ((hb).mono HF.out.1.size)) (And.intro (HF.out.2.1.step (hb)) (HF.out.2.2.step (hb))))
            have T1 := hide (n1)
            refine hK _ _ (fun _ => HF'.out) ?_
            clear hK K HF hb n1
            have HF := hide HF'.out
            clear HF'
            refine Calm.one (i := 2) (l' := #[true, true, true, true, true, true, true, true, false, false, false]) (by kernel_rfl) rfl rfl rfl fun K hK => ?_
            go_simp
            refine (rmul2_any _ _ (nv d (2 - 1) : Int) 10 _ HF.out.2.2.int T1.out HLN.out.1 (by decide)).mono ?_
            rintro e u2 ⟨v2, rfl, n2, hb⟩
            clear T1
            have HF' := hide (And.intro (HF.out.1.trans ((hb).mono HF.out.1.size)) (And.intro (HF.out.2.1.step (hb)) (HF.out.2.2.step (hb))))
            have T2 := hide (n2)
            refine hK _ _ (fun _ => HF'.out) ?_
            clear hK K HF hb n2
            have HF := hide HF'.out
            clear HF'
            refine Calm.one (i := 8) (l' := #[true, true, true, true, true, true, true, true, true, false, false]) (by kernel_rfl) rfl rfl rfl fun K hK => ?_
            go_simp
            rw [dig_wrap64 x h9]
            refine (rof_any (x : Int) _ (by omega) (by omega)).mono ?_
            rintro e u3 ⟨v3, rfl, n3, hb⟩
            replace T2 := hide (T2.out.below (hb))
            have HF' := hide (And.intro (HF.out.1.trans ((hb).mono HF.out.1.size)) (And.intro (HF.out.2.1.step (hb)) (HF.out.2.2.step (hb))))
            have T3 := hide (n3)
            refine hK _ _ (fun _ => HF'.out) ?_
            clear hK K HF hb n3
            have HF := hide HF'.out
            clear HF'
            refine Calm.one (i := 9) (l' := #[true, true, true, true, true, true, true, true, true, true, false]) (by kernel_rfl) rfl rfl rfl fun K hK => ?_
            go_simp
            refine (radd2_any _ _ ((nv d (2 - 1) : Int) * 10) (x : Int) _ T2.out T3.out HLN.out.2 (dig_len x h9)).mono ?_
            rintro e u4 ⟨v4, rfl, n4, hb⟩
            obtain ⟨b4, k4, a4, c4, rfl, m4, e4, z4⟩ := n4
            have n4 : RInt u4 (.agg #[.bool b4, .slice a4 (D.lim k4).length c4]) (((nv d (2 - 1) : Int) * 10) + (x : Int)) := ⟨b4, k4, a4, c4, rfl, m4, e4, z4⟩
            clear T2
            clear T3
            have HF' := hide (And.intro (HF.out.1.trans ((hb).mono HF.out.1.size)) (And.intro (HF.out.2.1.step (hb)) (HF.out.2.2.step (hb))))
            have T4 := hide (n4)
            refine hK _ _ (fun _ => HF'.out) ?_
            clear hK K HF hb n4 m4 e4 z4
            have HF := hide HF'.out
            clear HF'
            refine Calm.one (i := 10) (l' := #[true, true, true, true, true, true, true, true, true, true, true]) (by kernel_rfl) rfl rfl rfl fun K hK => ?_
            have hc0 := HF.out.2.2.box.cell0
            have hc1 := HF.out.2.2.box.cell1
            have hf0 := HF.out.2.2.box.free 0
            have hf1 := HF.out.2.2.box.free 1
            go_simp
            refine hK _ _ (fun h => absurd h (by decide)) ?_
            clear hK K
            refine Calm.done (by kernel_rfl) ?_
            go_wp2
            go_roundw
            case rel => exact ⟨2 + 1, by omega, by omega, by go_num, by rw [show 2 + 1 - 1 = 2 - 1 + 1 by omega]; exact HG.out.succ HF0.out, below_put HF.out.1 (Nat.le_succ _) _ _, HF.out.2.1.other (by omega) _ _, b4, a4, _, c4, ⟨HF.out.2.2.box.put _ _, by rw [HX.out]; have := T4.out.keep (keeps2 HF.out.2.2.box (by simp) (by simp) (.bool b4) (.slice a4 (D.lim k4).length c4)); simpa using this⟩⟩
            case measure => simp [intOf]; omega
          · have h3' : ((i : Int) == 2) = false := by rw [beq_eq_false_iff_ne]; omega
            clear c3 hx h3
            go_wp2_with fail
            refine wp_calm (fun w' => Below w.heap.size w w' ∧ Box2 w' w.heap.size 54 (.bool false) (.slice none 0 0) ∧ RVar w' (w.heap.size + 1) sb m n c (nv d (i - 1) : Int)) (fun j => j != 10) 11 #[false, false, false, false, false, false, false, false, false, false, false] (by kernel_rfl) rfl rfl ?_
            have HF := hide (And.intro (HB.out.drew) (And.intro (HR.out.drew) (HV.out.drew)))
            generalize wr.drew = wrd at *
            refine Calm.take (i := 0) (v := ?_) (a' := ?_) (l' := #[true, false, false, false, false, false, false, false, false, false, false]) (d := some 74) rfl (by kernel_rfl) (by kernel_rfl) (by kernel_rfl) (by kernel_rfl) (fun _ _ _ h => h) HF.out rfl ?_ rfl rfl ?_ ?_
            rotate_left
            · intro w' hF; have f10 := hF.2.1.cell0; have f11 := hF.2.1.cell1; have f20 := hF.2.2.box.cell0; have f21 := hF.2.2.box.cell1; clear hF; go_simp; try rfl
            rotate_left
            · simp only [Act.put]; exact rfl
            refine Calm.take (i := 3) (v := ?_) (a' := ?_) (l' := #[true, false, false, true, false, false, false, false, false, false, false]) (d := some 77) rfl (by kernel_rfl) (by kernel_rfl) (by kernel_rfl) (by kernel_rfl) (fun _ _ _ h => h) HF.out rfl ?_ rfl rfl ?_ ?_
            rotate_left
            · intro w' hF; clear hF; go_simp; try rfl
            rotate_left
            · simp only [Act.put]; exact rfl
            refine Calm.take (i := 4) (v := ?_) (a' := ?_) (l' := #[true, false, false, true, true, false, false, false, false, false, false]) (d := some 78) rfl (by kernel_rfl) (by kernel_rfl) (by kernel_rfl) (by kernel_rfl) (fun _ _ _ h => h) HF.out rfl ?_ rfl rfl ?_ ?_
            rotate_left
            · intro w' hF; clear hF; go_simp; try rfl
            rotate_left
            · simp only [Act.put]; exact rfl
            refine Calm.take (i := 5) (v := ?_) (a' := ?_) (l' := #[true, false, false, true, true, true, false, false, false, false, false]) (d := some 79) rfl (by kernel_rfl) (by kernel_rfl) (by kernel_rfl) (by kernel_rfl) (fun _ _ _ h => h) HF.out rfl ?_ rfl rfl ?_ ?_
            rotate_left
            · intro w' hF; clear hF; go_simp; try rfl
            rotate_left
            · simp only [Act.put]; exact rfl
            refine Calm.take (i := 6) (v := ?_) (a' := ?_) (l' := #[true, false, false, true, true, true, true, false, false, false, false]) (d := some 80) rfl (by kernel_rfl) (by kernel_rfl) (by kernel_rfl) (by kernel_rfl) (fun _ _ _ h => h) HF.out rfl ?_ rfl rfl ?_ ?_
            rotate_left
            · intro w' hF; clear hF; go_simp; try rfl
            rotate_left
            · simp only [Act.put]; exact rfl
            refine Calm.take (i := 7) (v := ?_) (a' := ?_) (l' := #[true, false, false, true, true, true, true, true, false, false, false]) (d := some 81) rfl (by kernel_rfl) (by kernel_rfl) (by kernel_rfl) (by kernel_rfl) (fun _ _ _ h => h) HF.out rfl ?_ rfl rfl ?_ ?_
            rotate_left
            · intro w' hF; clear hF; go_simp; try rfl
            rotate_left
            · simp only [Act.put]; exact rfl
            refine Calm.one (i := 1) (l' := #[true, true, false, true, true, true, true, true, false, false, false]) (by kernel_rfl) rfl rfl rfl fun K hK => ?_
            go_simp
            refine (rof_any 10 _ (by decide) (by decide)).mono ?_
            rintro e u1 ⟨v1, rfl, n1, hb⟩
            have HF' := hide (And.intro (HF.out.1.trans ((hb).mono HF.out.1.size)) (And.intro (HF.out.2.1.step (hb)) (HF.out.2.2.step (hb))))
            have T1 := hide (n1)
            refine hK _ _ (fun _ => HF'.out) ?_
            clear hK K HF hb n1
            have HF := hide HF'.out
            clear HF'
            refine Calm.one (i := 2) (l' := #[true, true, true, true, true, true, true, true, false, false, false]) (by kernel_rfl) rfl rfl rfl fun K hK => ?_
            go_simp
            refine (rmul2_any _ _ (nv d (i - 1) : Int) 10 _ HF.out.2.2.int T1.out HLN.out.1 (by decide)).mono ?_
            rintro e u2 ⟨v2, rfl, n2, hb⟩
            clear T1
            have HF' := hide (And.intro (HF.out.1.trans ((hb).mono HF.out.1.size)) (And.intro (HF.out.2.1.step (hb)) (HF.out.2.2.step (hb))))
            have T2 := hide (n2)
            refine hK _ _ (fun _ => HF'.out) ?_
            clear hK K HF hb n2
            have HF := hide HF'.out
            clear HF'
            refine Calm.one (i := 8) (l' := #[true, true, true, true, true, true, true, true, true, false, false]) (by kernel_rfl) rfl rfl rfl fun K hK => ?_
            go_simp
            rw [dig_wrap64 x h9]
            refine (rof_any (x : Int) _ (by omega) (by omega)).mono ?_
            rintro e u3 ⟨v3, rfl, n3, hb⟩
            replace T2 := hide (T2.out.below (hb))
            have HF' := hide (And.intro (HF.out.1.trans ((hb).mono HF.out.1.size)) (And.intro (HF.out.2.1.step (hb)) (HF.out.2.2.step (hb))))
            have T3 := hide (n3)
            refine hK _ _ (fun _ => HF'.out) ?_
            clear hK K HF hb n3
            have HF := hide HF'.out
            clear HF'
            refine Calm.one (i := 9) (l' := #[true, true, true, true, true, true, true, true, true, true, false]) (by kernel_rfl) rfl rfl rfl fun K hK => ?_
            go_simp
            refine (radd2_any _ _ ((nv d (i - 1) : Int) * 10) (x : Int) _ T2.out T3.out HLN.out.2 (dig_len x h9)).mono ?_
            rintro e u4 ⟨v4, rfl, n4, hb⟩
            obtain ⟨b4, k4, a4, c4, rfl, m4, e4, z4⟩ := n4
            have n4 : RInt u4 (.agg #[.bool b4, .slice a4 (D.lim k4).length c4]) (((nv d (i - 1) : Int) * 10) + (x : Int)) := ⟨b4, k4, a4, c4, rfl, m4, e4, z4⟩
            clear T2
            clear T3
            have HF' := hide (And.intro (HF.out.1.trans ((hb).mono HF.out.1.size)) (And.intro (HF.out.2.1.step (hb)) (HF.out.2.2.step (hb))))
            have T4 := hide (n4)
            refine hK _ _ (fun _ => HF'.out) ?_
            clear hK K HF hb n4 m4 e4 z4
            have HF := hide HF'.out
            clear HF'
            refine Calm.one (i := 10) (l' := #[true, true, true, true, true, true, true, true, true, true, true]) (by kernel_rfl) rfl rfl rfl fun K hK => ?_
            have hc0 := HF.out.2.2.box.cell0
            have hc1 := HF.out.2.2.box.cell1
            have hf0 := HF.out.2.2.box.free 0
            have hf1 := HF.out.2.2.box.free 1
            go_simp
            refine hK _ _ (fun h => absurd h (by decide)) ?_
            clear hK K
            refine Calm.done (by kernel_rfl) ?_
            go_wp2
            go_roundw
            case rel => exact ⟨i + 1, by omega, by omega, by go_num, by rw [show i + 1 - 1 = i - 1 + 1 by omega]; exact HG.out.succ HF0.out, below_put HF.out.1 (Nat.le_succ _) _ _, HF.out.2.1.other (by omega) _ _, b4, a4, _, c4, ⟨HF.out.2.2.box.put _ _, by rw [HX.out]; have := T4.out.keep (keeps2 HF.out.2.2.box (by simp) (by simp) (.bool b4) (.slice a4 (D.lim k4).length c4)); simpa using this⟩⟩
            case measure => simp [intOf]; omega
        · have e : i = s.size := by omega
          subst e
          clear hi1 hi2 hlt
          have hv1 := HV.out.box.cell1
          have hv0 := HV.out.box.cell0
          obtain ⟨b4, k4, a4, c4, e3, m4, e4, z4⟩ := HV.out.int
          simp only [Value.agg.injEq, Array.mk.injEq, List.cons.injEq, Value.bool.injEq, Value.slice.injEq, and_true] at e3
          obtain ⟨rfl, rfl, rfl, rfl⟩ := e3
          have HK : Hid (k4 = nv d d.size) := hide (by have h1 := congrArg Int.natAbs e4; rw [sg_abs, Int.natAbs_natCast, show s.size - 1 = d.size by have := HDS.out; omega] at h1; exact h1.symm)
          have HM := hide m4
          clear m4 e4 z4
          go_wp2_with fail
          refine (rnorm2_any true _ (D.lim k4) _ HM.out (D.ok_lim k4)).mono ?_
          rintro e w2 ⟨v2, rfl, hr2, hb2⟩
          rw [D.val_lim, HK.out] at hr2
          obtain ⟨b5, k5, a5, c5, rfl, m5, e5, z5⟩ := hr2
          replace HR := hide (HR.out.step hb2)
          replace HB := hide (HB.out.trans (hb2.mono HB.out.size))
          have hc0 := HR.out.cell0
          have hc1 := HR.out.cell1
          have hf0 := HR.out.free 0
          have hf1 := HR.out.free 1
          clear hb2 hv0 hv1
          go_wp2
          refine ret_rat1 rfl w.heap.size _ _ rfl (HR.out.put _ _) rfl ?_
          exact ⟨_, _, -1, rfl, ⟨b5, k5, a5, c5, rfl, keeps2 HR.out (by simp) (by simp) _ _ _ _ m5, e5, z5⟩, .inr ⟨HRZ.out (show Good d d.size by have := HG.out; rwa [show s.size - 1 = d.size by have := HDS.out; omega] at this), rfl⟩, below_put HB.out (Nat.le_refl _) _ _⟩
end Go.Proofs.YtdafdfgkfkanjaaDoor

namespace Go.Proofs.YtdafdfgkfkanjaaDoor
open Go.RowKit

section
variable {P : Program} {md : Region.Mode} {ops : Array Oper} {Q : Exit → Act → World → Prop} {F : World → Prop} {pend : Nat → Bool}

/-- j waits for i, by so many steps at most -/
def Late (md : Region.Mode) (ops : Array Oper) (i : Nat) : Nat → Nat → Bool
  | 0, _ => false
  | n + 1, j => match ops[j]? with
    | some oj => oj.after.any fun e => Region.binds md e && (e.on == i || Late md ops i n e.on)
    | none => false

/-- what is listed waits for nothing that is not -/
def Closed (md : Region.Mode) (ops : Array Oper) (listed : Array Bool) : Bool :=
  (List.range ops.size).all fun j => !(listed.getD j true) || match ops[j]? with
    | some oj => oj.after.all fun e => !(Region.binds md e) || listed.getD e.on false
    | none => true

def WaitsL (md : Region.Mode) (ops : Array Oper) (pend : Nat → Bool) (i n : Nat) : Bool :=
  (List.range ops.size).all fun j => j == i || pend j || Late md ops i n j

/-- what is listed waits for nothing that is not, as a proposition -/
def Shut (md : Region.Mode) (ops : Array Oper) (listed : Array Bool) : Prop :=
  ∀ (j : Nat) (oj : Oper), ops[j]? = some oj → listed[j]? = some true → ∀ e ∈ oj.after, Region.binds md e = true → listed[e.on]? = some true

theorem Closed.shut {listed : Array Bool} (h : Closed md ops listed = true) : Shut md ops listed := by
  intro j oj hj hl e he hb
  have := List.all_eq_true.1 h j (List.mem_range.2 (Array.getElem?_eq_some_iff.1 hj).1)
  have hl' : listed.getD j true = true := by simp [hl]
  simp only [hj, hl', Bool.not_true, Bool.false_or] at this
  have h2 := Array.all_eq_true'.1 this e he
  simp only [hb, Bool.not_true, Bool.false_or] at h2
  rcases Nat.lt_or_ge e.on listed.size with h' | h'
  · simp [h'] at h2 ⊢; exact h2
  · simp [Array.getElem?_eq_none h'] at h2

theorem Shut.not_late {listed : Array Bool} {i : Nat} (h : Shut md ops listed) (hi : listed[i]? ≠ some true) : ∀ (n j : Nat), listed[j]? = some true → Late md ops i n j = false
  | 0, _, _ => rfl
  | n + 1, j, hj => by
    unfold Late
    cases ho : ops[j]? with
    | none => rfl
    | some oj =>
      simp only
      rw [Array.any_eq_false']
      intro e he hc
      simp only [Bool.and_eq_true, Bool.or_eq_true, beq_iff_eq] at hc
      have hl := h j oj ho hj e he hc.1
      rcases hc.2 with h1 | h1
      · rw [h1] at hl; exact hi hl
      · rw [h.not_late hi n e.on hl] at h1; cases h1

theorem Calm.firstL {i n : Nat} {oi : Oper} {v : Value} (hi : ops[i]? = some oi) (hs : Region.noSelect ops = true) (hw : WaitsL md ops pend i (n + 1) = true)
    (hQ : ∀ c a w, Q (.panic c) (a.put oi.dst v) w → Q (.panic c) a w) : ∀ (fuel : Nat) (listed : Array Bool) (a : Act) (w : World), Shut md ops listed →
      (∀ j oj, ops[j]? = some oj → j ≠ i → listed.getD j true = false → (∀ e ∈ oj.after, Region.binds md e = true → e.on ≠ i) → oi.apart ops oj = true) →
      i ∈ Region.ready md ops listed → F w → Gives P ops F oi v a → Calm P md ops Q F pend fuel (listed.setIfInBounds i true) (a.put oi.dst v) w → Calm P md ops Q F pend (fuel + 1) listed a w := by
  have hsel := Region.noSelect_spec hs
  intro fuel
  induction fuel with
  | zero =>
    intro listed a w _ _ hr hF hy H
    refine ⟨fun h => (by rw [h] at hr; cases hr), fun j hj => ?_⟩
    by_cases e : j = i
    · subst e; exact hy.wpOp hi hF ⟨fun _ => hF, H⟩
    · have := ready_mono hj e
      rw [H.1] at this
      cases this
  | succ fuel ih =>
    intro listed a w hsh hfree hr hF hy H
    refine ⟨fun h => (by rw [h] at hr; cases hr), fun j hj => ?_⟩
    by_cases e : j = i
    · subst e; exact hy.wpOp hi hF ⟨fun _ => hF, H⟩
    · obtain ⟨hun, oj, hoj, hall⟩ := mem_ready.1 hj
      have hni : listed[i]? ≠ some true := by
        have h0 := (mem_ready.1 hr).1
        intro hc
        simp [hc] at h0
      have hto : ∀ e ∈ oj.after, Region.binds md e = true → listed[e.on]? = some true := fun e he hb => by
        have h1 := hall e he hb
        rcases Nat.lt_or_ge e.on listed.size with h' | h'
        · simp [h'] at h1 ⊢; exact h1
        · simp [Array.getElem?_eq_none h'] at h1
      have hno : ∀ e ∈ oj.after, Region.binds md e = true → e.on ≠ i := fun e he hb heq => by
        have h1 := hto e he hb
        rw [heq] at h1
        exact hni h1
      have hlate : Late md ops i (n + 1) j = false := by
        unfold Late
        simp only [hoj]
        rw [Array.any_eq_false']
        intro e he hc
        simp only [Bool.and_eq_true, Bool.or_eq_true, beq_iff_eq] at hc
        rcases hc.2 with h1 | h1
        · exact hno e he hc.1 h1
        · rw [hsh.not_late hni n e.on (hto e he hc.1)] at h1; cases h1
      have hp : pend j = true := by
        have := List.all_eq_true.1 hw j (List.mem_range.2 (Array.getElem?_eq_some_iff.1 hoj).1)
        simp only [hlate, Bool.or_false, Bool.or_eq_true, beq_iff_eq, e, false_or] at this
        exact this
      have hsh' : Shut md ops (listed.setIfInBounds j true) := by
        intro k ok hk hl e' he' hb'
        have up : listed[e'.on]? = some true → (listed.setIfInBounds j true)[e'.on]? = some true := fun h => by
          rw [Array.getElem?_setIfInBounds]
          split
          · next h2 => rw [if_pos (by rw [h2]; exact (Array.getElem?_eq_some_iff.1 h).1)]
          · exact h
        by_cases hkj : j = k
        · subst hkj
          rw [hoj] at hk; cases hk
          exact up (hto e' he' hb')
        · rw [Array.getElem?_setIfInBounds, if_neg hkj] at hl
          exact up (hsh k ok hk hl e' he' hb')
      obtain ⟨k1, k2, k3⟩ := Oper.apart_spec (hfree j oj hoj e hun hno)
      have same : ∀ (a a' : Act), execOp a'.eval oi = execOp a.eval oi → Region.wanted oi (yielded ops a'.tmps) = Region.wanted oi (yielded ops a.tmps) → Gives P ops F oi v a → Gives P ops F oi v a' := by
        intro a a' h1 h2 h3
        unfold Gives at *
        rw [h1, h2]; exact h3
      have h2 := wpOp_late (x := oi.dst) (v := v) (Y := Gives P ops F oi v) hoj k1 k2 (fun cs b => hsel j oj cs b hoj) hQ
        (fun a u => same _ _ (execOp_put oi (fun cs b => hsel i oi cs b hi) a oj.dst u k3) (wanted_put oi a oj.dst u k3)) (fun a d => same _ _ rfl rfl) hy (H.2 j (ready_mono hj e))
      refine wpOp_mono (fun a' w' h3 => ⟨h3.2.1, ?_⟩) h2
      refine ih (listed.setIfInBounds j true) a' w' hsh' (fun k ok hk hki hun' hno' => hfree k ok hk hki ?_ hno') (ready_mono hr (Ne.symm e)) (h3.2.1 hp) h3.1 ?_
      · by_cases hjk : j = k
        · subst hjk; exact hun
        · rw [getD_set_ne true hjk] at hun'; exact hun'
      · rw [Array.setIfInBounds_comm _ _ e]; exact h3.2.2

theorem Calm.takeL {i : Nat} (n : Nat) {oi : Oper} {v : Value} {fuel : Nat} {listed : Array Bool} {a : Act} {w : World} (hc : Closed md ops listed = true) (hi : ops[i]? = some oi) (hs : Region.noSelect ops = true) (hw : WaitsL md ops pend i (n + 1) = true) (hf : Region.free md ops listed i = true)
    (hr : (Region.ready md ops listed).contains i = true) (hQ : ∀ c a w, Q (.panic c) (a.put oi.dst v) w → Q (.panic c) a w) (hF : F w) (hg : Region.wanted oi (yielded ops a.tmps) = true) (hy : ∀ w, F w → (execOp a.eval oi).run P w = .ok (.value v) w)
    {l' : Array Bool} (hl : listed.setIfInBounds i true = l') {d : Option Tmp} (hd : oi.dst = d) {a' : Act} (ha : a.put d v = a') (h : Calm P md ops Q F pend fuel l' a' w) : Calm P md ops Q F pend (fuel + 1) listed a w := by
  subst hl; subst hd; subst ha
  exact Calm.firstL hi hs hw hQ fuel listed a w (Closed.shut hc) (Region.free_spec hi hf) (by simpa using hr) hF (.inl ⟨hg, hy⟩) h
end
end Go.Proofs.YtdafdfgkfkanjaaDoor

namespace Go.Proofs.YtdafdfgkfkanjaaDoor
open Go.RowKit

/-- numbers as they are handed in -/
def NumL (w : World) (v : Value) (ns : List (Bool × List Nat)) : Prop :=
  ∃ a cap, v = .slice a ns.length cap ∧ ns.length ≤ cap ∧ cap ≤ 140737488355328 ∧ (∀ i, (ns.getD i (false, [])).2.length ≤ 140737488355328) ∧ (ns ≠ [] → ∃ b off, a = some ⟨b, off, none⟩ ∧
    ∀ i, i < ns.length → ∃ m c, w.cell? ⟨b, off + i * 2, none⟩ = some (.bool (ns.getD i (false, [])).1) ∧ w.cell? ⟨b, off + i * 2 + 1, none⟩ = some (.slice m (ns.getD i (false, [])).2.length c) ∧ Nums w (.slice m (ns.getD i (false, [])).2.length c) (ns.getD i (false, [])).2)
theorem NumL.below {w w' : World} {v : Value} {ns : List (Bool × List Nat)} (h : NumL w v ns) (hb : Below w.heap.size w w') : NumL w' v ns := by
  obtain ⟨a, cap, rfl, h1, h2, h4, h3⟩ := h
  refine ⟨a, cap, rfl, h1, h2, h4, fun hx => ?_⟩
  obtain ⟨b, off, rfl, hc⟩ := h3 hx
  refine ⟨b, off, rfl, fun i hi => ?_⟩
  obtain ⟨m, c, k1, k2, k3⟩ := hc i hi
  exact ⟨m, c, (hb.cell (World.block_lt_of_cell? w _ k1)).trans k1, (hb.cell (World.block_lt_of_cell? w _ k2)).trans k2, k3.below hb⟩
theorem NumL.at {w : World} {a : Option Addr} {n cap : Nat} {ns : List (Bool × List Nat)} (h : NumL w (.slice a n cap) ns) {i : Nat} (hi : i < ns.length) :
    ∃ b off, a = some ⟨b, off, none⟩ ∧ ∃ s m l c xs, CellAt w ⟨b, off + i * 2, none⟩ (.bool s) ∧ CellAt w ⟨b, off + i * 2 + 1, none⟩ (.slice m l c) ∧ Nums w (.slice m l c) xs ∧ ns.getD i (false, []) = (s, xs) := by
  obtain ⟨a', c', he, _, _, _, h3⟩ := h
  simp only [Value.slice.injEq] at he
  obtain ⟨rfl, _, rfl⟩ := he
  obtain ⟨b, off, rfl, h⟩ := h3 (by intro e; rw [e] at hi; simp at hi)
  obtain ⟨m, c, k1, k2, k3⟩ := h i hi
  exact ⟨b, off, rfl, _, m, _, c, _, ⟨k1⟩, ⟨k2⟩, k3, rfl⟩
/-- which numbers they are -/
def numsZ (ns : List (Bool × List Nat)) : List Int := ns.map fun p => sg p.1 (val p.2)
theorem numsZ_take {ns : List (Bool × List Nat)} {k : Nat} {s : Bool} {xs : List Nat} (h : k < ns.length) (e : ns.getD k (false, []) = (s, xs)) : (numsZ ns).take (k + 1) = (numsZ ns).take k ++ [sg s (val xs)] := by
  have h' : k < (numsZ ns).length := by simpa [numsZ] using h
  rw [List.take_succ_eq_append_getElem h']
  congr 2
  have : ns[k] = (s, xs) := by rw [← e]; simp [h]
  simp [numsZ, this]
theorem below_grow {B : Nat} {w w' w'' : World} {r : Option Nat} (h : Below B w w') (hg : w'.grownBy w'' r) (hB : B ≤ w'.heap.size) (hr : ∀ g, r = some g → B ≤ g) : Below B w w'' := h.grown hg hB hr
theorem Tryd.infoRB : (Tryd.prog.info? 54).map (fun i => (i.zero, i.size, i.bytes)) = some (some (.agg #[.bool false, .slice none 0 0]), 2, 32) := by kernel_rfl

set_option maxRecDepth 100000 in
set_option maxHeartbeats 8000000 in
theorem rowof_any (va : Value) (ns : List (Bool × List Nat)) (w : World) (h : NumL w va ns) (hn : ns.length ≤ 1000000) (hl : ∀ i, (ns.getD i (false, [])).2.length ≤ 1000000) :
    Calls Tryd.prog 8 #[va] w fun e w' => ∃ v u, e = .returned (.tuple #[v, u]) ∧ Ints w' v (numsZ ns) ∧ RInts w' u (numsZ ns) ∧ Below w.heap.size w w' := by
  have HI := hide h
  have HL := hide hl
  obtain ⟨a, cap, rfl, hcap, hm, _, _⟩ := h
  obtain ⟨i0, hi0, hz0, hz1, hz2⟩ := info_parts Tryd.infoIntB
  obtain ⟨i1, hi1, hy0, hy1, hy2⟩ := info_parts Tryd.infoRB
  have TI := hide (And.intro hi0 (And.intro hz0 (And.intro hz1 hz2)))
  have TR := hide (And.intro hi1 (And.intro hy0 (And.intro hy1 hy2)))
  clear hl hi0 hz0 hz1 hz2 hi1 hy0 hy1 hy2
  go_enter Tryd.func8, Tryd.ntmps8
  go_wp2
  go_loopw [4, 5, 6] (fun va vb iv wr => ∃ k : Nat, k ≤ ns.length ∧ iv = .int .i64 k ∧ Below w.heap.size w wr ∧ ListI wr w.heap.size va ((numsZ ns).take k) ∧ ListR wr w.heap.size vb ((numsZ ns).take k) ∧ ∀ g, va.ownBlock = some g → vb.ownBlock ≠ some g) (fun _ _ iv _ => ns.length - (intOf iv).toNat)
  case atStart => exact ⟨0, Nat.zero_le _, rfl, Below.refl _ _, ListI.nil _ _, ListR.nil _ _, fun g h => by cases h⟩
  case round =>
    obtain ⟨k, hk, rfl, hb, hA, hB, hap⟩ := hrel
    have HB := hide hb
    have LA := hide hA
    have LB := hide hB
    have AP := hide hap
    clear hb hA hB hap
    by_cases hlt : k < ns.length
    · obtain ⟨b, off, rfl, s, m, l, c, xs, k1, k2, k3, k4⟩ := (HI.out.below HB.out).at hlt
      have BL : Hid (b < w.heap.size) := hide (by
        obtain ⟨b', off', e, s', m', l', c', xs', q1, _⟩ := HI.out.at hlt
        simp only [Option.some.injEq, Addr.mk.injEq] at e
        rw [e.1]; exact World.block_lt_of_cell? w _ q1.out)
      have K1 := hide k1
      have K2 := hide k2
      have NX := hide k3
      have TK := hide (numsZ_take hlt k4)
      have LX : Hid (xs.length ≤ 1000000) := hide (by have := HL.out k; rw [k4] at this; exact this)
      clear k1 k2 k3 k4
      generalize hT : (numsZ ns).take k = T at *
      have TL : Hid (T.length ≤ 1000000) := hide (by rw [← hT, List.length_take]; omega)
      clear hT
      go_wp2_with fail
      refine wp_calm (fun w' => Below w.heap.size w w' ∧ CellAt w' ⟨b, off + k * 2, none⟩ (.bool s) ∧ CellAt w' ⟨b, off + k * 2 + 1, none⟩ (.slice m l c) ∧ Nums w' (.slice m l c) xs ∧ ListI w' w.heap.size u4 T ∧ ListR w' w.heap.size u5 T) (fun j => j != 13 && j != 14) 15 #[false, false, false, false, false, false, false, false, false, false, false, false, false, false, false] (by kernel_rfl) rfl rfl ?_
      have HF := hide (And.intro (HB.out.drew) (And.intro (K1.out.drew) (And.intro (K2.out.drew) (And.intro (NX.out.drew) (And.intro (LA.out.drew) (LB.out.drew))))))
      generalize wr.drew = wrd at *
      refine Calm.takeL 15 (i := 0) (v := ?_) (a' := ?_) (l' := #[true, false, false, false, false, false, false, false, false, false, false, false, false, false, false]) (d := some 13) (by kernel_rfl) rfl (by kernel_rfl) (by kernel_rfl) (by kernel_rfl) (by kernel_rfl) (fun _ _ _ h => h) HF.out rfl ?_ rfl rfl ?_ ?_
      rotate_left
      · intro w' hF; clear hF; go_simp; try rfl
      rotate_left
      · simp only [Act.put]; exact rfl
      refine Calm.takeL 15 (i := 1) (v := ?_) (a' := ?_) (l' := #[true, true, false, false, false, false, false, false, false, false, false, false, false, false, false]) (d := some 14) (by kernel_rfl) rfl (by kernel_rfl) (by kernel_rfl) (by kernel_rfl) (by kernel_rfl) (fun _ _ _ h => h) HF.out rfl ?_ rfl rfl ?_ ?_
      rotate_left
      · intro w' hF; clear hF; go_simp; try rfl
      rotate_left
      · simp only [Act.put]; exact rfl
      refine Calm.takeL 15 (i := 2) (v := ?_) (a' := ?_) (l' := #[true, true, true, false, false, false, false, false, false, false, false, false, false, false, false]) (d := some 15) (by kernel_rfl) rfl (by kernel_rfl) (by kernel_rfl) (by kernel_rfl) (by kernel_rfl) (fun _ _ _ h => h) HF.out rfl ?_ rfl rfl ?_ ?_
      rotate_left
      · intro w' hF; clear hF; go_simp; try rfl
      rotate_left
      · simp only [Act.put]; exact rfl
      refine Calm.takeL 15 (i := 3) (v := ?_) (a' := ?_) (l' := #[true, true, true, true, false, false, false, false, false, false, false, false, false, false, false]) (d := some 16) (by kernel_rfl) rfl (by kernel_rfl) (by kernel_rfl) (by kernel_rfl) (by kernel_rfl) (fun _ _ _ h => h) HF.out rfl ?_ rfl rfl ?_ ?_
      rotate_left
      · intro w' hF; clear hF; go_simp; try rfl
      rotate_left
      · simp only [Act.put]; exact rfl
      refine Calm.takeL 15 (i := 4) (v := ?_) (a' := ?_) (l' := #[true, true, true, true, true, false, false, false, false, false, false, false, false, false, false]) (d := some 17) (by kernel_rfl) rfl (by kernel_rfl) (by kernel_rfl) (by kernel_rfl) (by kernel_rfl) (fun _ _ _ h => h) HF.out rfl ?_ rfl rfl ?_ ?_
      rotate_left
      · intro w' hF; clear hF; go_simp; try rfl
      rotate_left
      · simp only [Act.put]; exact rfl
      refine Calm.takeL 15 (i := 5) (v := ?_) (a' := ?_) (l' := #[true, true, true, true, true, true, false, false, false, false, false, false, false, false, false]) (d := some 18) (by kernel_rfl) rfl (by kernel_rfl) (by kernel_rfl) (by kernel_rfl) (by kernel_rfl) (fun _ _ _ h => h) HF.out rfl ?_ rfl rfl ?_ ?_
      rotate_left
      · intro w' hF; have f10 := hF.2.1.out; have f20 := hF.2.2.1.out; clear hF; go_simp; try rfl
      rotate_left
      · simp only [Act.put]; exact rfl
      refine Calm.takeL 15 (i := 6) (v := ?_) (a' := ?_) (l' := #[true, true, true, true, true, true, true, false, false, false, false, false, false, false, false]) (d := some 19) (by kernel_rfl) rfl (by kernel_rfl) (by kernel_rfl) (by kernel_rfl) (by kernel_rfl) (fun _ _ _ h => h) HF.out rfl ?_ rfl rfl ?_ ?_
      rotate_left
      · intro w' hF; clear hF; go_simp; try rfl
      rotate_left
      · simp only [Act.put]; exact rfl
      refine Calm.takeL 15 (i := 7) (v := ?_) (a' := ?_) (l' := #[true, true, true, true, true, true, true, true, false, false, false, false, false, false, false]) (d := some 20) (by kernel_rfl) rfl (by kernel_rfl) (by kernel_rfl) (by kernel_rfl) (by kernel_rfl) (fun _ _ _ h => h) HF.out rfl ?_ rfl rfl ?_ ?_
      rotate_left
      · intro w' hF; clear hF; go_simp; try rfl
      rotate_left
      · simp only [Act.put]; exact rfl
      refine Calm.takeL 15 (i := 8) (v := ?_) (a' := ?_) (l' := #[true, true, true, true, true, true, true, true, true, false, false, false, false, false, false]) (d := some 21) (by kernel_rfl) rfl (by kernel_rfl) (by kernel_rfl) (by kernel_rfl) (by kernel_rfl) (fun _ _ _ h => h) HF.out rfl ?_ rfl rfl ?_ ?_
      rotate_left
      · intro w' hF; clear hF; go_simp; try rfl
      rotate_left
      · simp only [Act.put]; exact rfl
      refine Calm.takeL 15 (i := 9) (v := ?_) (a' := ?_) (l' := #[true, true, true, true, true, true, true, true, true, true, false, false, false, false, false]) (d := some 22) (by kernel_rfl) rfl (by kernel_rfl) (by kernel_rfl) (by kernel_rfl) (by kernel_rfl) (fun _ _ _ h => h) HF.out rfl ?_ rfl rfl ?_ ?_
      rotate_left
      · intro w' hF; clear hF; go_simp; try rfl
      rotate_left
      · simp only [Act.put]; exact rfl
      refine Calm.takeL 15 (i := 10) (v := ?_) (a' := ?_) (l' := #[true, true, true, true, true, true, true, true, true, true, true, false, false, false, false]) (d := some 23) (by kernel_rfl) rfl (by kernel_rfl) (by kernel_rfl) (by kernel_rfl) (by kernel_rfl) (fun _ _ _ h => h) HF.out rfl ?_ rfl rfl ?_ ?_
      rotate_left
      · intro w' hF; have f10 := hF.2.1.out; have f20 := hF.2.2.1.out; clear hF; go_simp; try rfl
      rotate_left
      · simp only [Act.put]; exact rfl
      refine Calm.one (i := 11) (l' := #[true, true, true, true, true, true, true, true, true, true, true, true, false, false, false]) (by kernel_rfl) rfl rfl rfl fun K hK => ?_
      go_simp
      refine (make_any s _ xs _ HF.out.2.2.2.1 (by have := LX.out; omega)).mono ?_
      rintro e yA ⟨v, rfl, n, hb⟩
      obtain ⟨sA, mA, lA, cA, rfl, n⟩ := n.cells
      have HF' := hide (And.intro (HF.out.1.trans ((hb).mono HF.out.1.size)) (And.intro (HF.out.2.1.step (hb)) (And.intro (HF.out.2.2.1.step (hb)) (And.intro (HF.out.2.2.2.1.below (hb)) (And.intro (HF.out.2.2.2.2.1.below (hb)) (HF.out.2.2.2.2.2.below (hb)))))))
      have TV := hide (n)
      refine hK _ _ (fun _ => HF'.out) ?_
      clear hK K HF hb n
      have HF := hide HF'.out
      clear HF'
      refine Calm.one (i := 12) (l' := #[true, true, true, true, true, true, true, true, true, true, true, true, true, false, false]) (by kernel_rfl) rfl rfl rfl fun K hK => ?_
      go_simp
      have al := below_alloc yA (.cells #[.bool sA, .slice mA lA cA] 51)
      have HF' := hide (And.intro (HF.out.1.trans ((al).mono HF.out.1.size)) (And.intro (HF.out.2.1.step (al)) (And.intro (HF.out.2.2.1.step (al)) (And.intro (HF.out.2.2.2.1.below (al)) (And.intro (HF.out.2.2.2.2.1.below (al)) (HF.out.2.2.2.2.2.below (al)))))))
      have BXe := hide (Box.new yA (.bool sA) (.slice mA lA cA))
      replace TV := hide (TV.out.below (al))
      have GEe := hide (HF.out.1.size)
      refine hK _ _ (fun _ => HF'.out) ?_
      clear hK K HF al
      have HF := hide HF'.out
      clear HF'
      generalize yA.alloc (.cells #[.bool sA, .slice mA lA cA] 51) = wze at *
      generalize yA.heap.size = ge at *
      refine Calm.one (i := 13) (l' := #[true, true, true, true, true, true, true, true, true, true, true, true, true, true, false]) (by kernel_rfl) rfl rfl rfl fun K hK => ?_
      obtain ⟨zx, ho, hx⟩ := HF.out.2.2.2.2.1
      have he0 := BXe.out.cell0
      have he1 := BXe.out.cell1
      refine wp_app2 _ (.tmp 13) (.tmp 25) 25 rfl w.heap.size 51 _ Tryd.underlying25 TI.out.1 TI.out.2.1 TI.out.2.2.1 TI.out.2.2.2 u4 T.length zx rfl ho ge 1 sA mA lA cA rfl he0 he1 (by have := TL.out; omega) (by have := HF.out.1.size; omega) ?_
      intro vA xA ho' hg hob
      clear he0 he1
      refine hK _ _ (fun h => absurd h (by decide)) ?_
      clear hK K
      refine Calm.one (i := 14) (l' := #[true, true, true, true, true, true, true, true, true, true, true, true, true, true, true]) (by kernel_rfl) rfl rfl rfl fun K hK => ?_
      go_simp
      refine hK _ _ (fun h => absurd h (by decide)) ?_
      clear hK K
      refine Calm.done (by kernel_rfl) ?_
      have HK2 := hide (show Spares wze xA from Own2.spares ho hg)
      have HG := hide hg
      have HO := hide hob
      have LA2 := hide (ListI.app ho hx TV.out ho' hg)
      have LB2 := hide (HF.out.2.2.2.2.2.other hg HK2.out (fun g h e => AP.out g e h))
      have HB2 := hide (below_grow HF.out.1 hg HF.out.1.size (fun g e => (HF.out.2.2.2.2.1.lt e).1))
      have K12 := hide (CellAt.mk (hg.cell HF.out.2.1.out (fun e => by have h1 := (HF.out.2.2.2.2.1.lt e.symm).1; have h2 := BL.out; exact absurd h1 (by simp only; omega))))
      have K22 := hide (CellAt.mk (hg.cell HF.out.2.2.1.out (fun e => by have h1 := (HF.out.2.2.2.2.1.lt e.symm).1; have h2 := BL.out; exact absurd h1 (by simp only; omega))))
      have NX2 := hide (HK2.out _ _ HF.out.2.2.2.1)
      have AP2 : Hid (∀ g, vA.ownBlock = some g → u5.ownBlock ≠ some g) := hide (fun g h1 h2 => by rcases HO.out with e | e; exact AP.out g (e ▸ h1) h2; have h3 := (HF.out.2.2.2.2.2.lt h2).2; rw [e] at h1; simp only [Option.some.injEq] at h1; omega)
      skip
      clear HF ho hx ho' hg hob TV BXe HB LA LB AP K1 K2 NX HK2 HG HO GEe
      replace HB := hide HB2.out
      replace LA := hide LA2.out
      replace LB := hide LB2.out
      replace K1 := hide K12.out
      replace K2 := hide K22.out
      replace NX := hide NX2.out
      replace AP := hide AP2.out
      clear HB2 LA2 LB2 K12 K22 NX2 AP2
      go_wp2_with fail
      refine wp_calm (fun w' => Below w.heap.size w w' ∧ CellAt w' ⟨b, off + k * 2, none⟩ (.bool s) ∧ CellAt w' ⟨b, off + k * 2 + 1, none⟩ (.slice m l c) ∧ Nums w' (.slice m l c) xs ∧ ListI w' w.heap.size vA (T ++ [sg s (val xs)]) ∧ ListR w' w.heap.size u5 T) (fun j => j != 13 && j != 14) 15 #[false, false, false, false, false, false, false, false, false, false, false, false, false, false, false] (by kernel_rfl) rfl rfl ?_
      have HF := hide (And.intro (HB.out.drew) (And.intro (K1.out.drew) (And.intro (K2.out.drew) (And.intro (NX.out.drew) (And.intro (LA.out.drew) (LB.out.drew))))))
      generalize xA.drew = xAd at *
      refine Calm.takeL 15 (i := 0) (v := ?_) (a' := ?_) (l' := #[true, false, false, false, false, false, false, false, false, false, false, false, false, false, false]) (d := some 27) (by kernel_rfl) rfl (by kernel_rfl) (by kernel_rfl) (by kernel_rfl) (by kernel_rfl) (fun _ _ _ h => h) HF.out rfl ?_ rfl rfl ?_ ?_
      rotate_left
      · intro w' hF; clear hF; go_simp; try rfl
      rotate_left
      · simp only [Act.put]; exact rfl
      refine Calm.takeL 15 (i := 1) (v := ?_) (a' := ?_) (l' := #[true, true, false, false, false, false, false, false, false, false, false, false, false, false, false]) (d := some 28) (by kernel_rfl) rfl (by kernel_rfl) (by kernel_rfl) (by kernel_rfl) (by kernel_rfl) (fun _ _ _ h => h) HF.out rfl ?_ rfl rfl ?_ ?_
      rotate_left
      · intro w' hF; clear hF; go_simp; try rfl
      rotate_left
      · simp only [Act.put]; exact rfl
      refine Calm.takeL 15 (i := 2) (v := ?_) (a' := ?_) (l' := #[true, true, true, false, false, false, false, false, false, false, false, false, false, false, false]) (d := some 29) (by kernel_rfl) rfl (by kernel_rfl) (by kernel_rfl) (by kernel_rfl) (by kernel_rfl) (fun _ _ _ h => h) HF.out rfl ?_ rfl rfl ?_ ?_
      rotate_left
      · intro w' hF; clear hF; go_simp; try rfl
      rotate_left
      · simp only [Act.put]; exact rfl
      refine Calm.takeL 15 (i := 3) (v := ?_) (a' := ?_) (l' := #[true, true, true, true, false, false, false, false, false, false, false, false, false, false, false]) (d := some 30) (by kernel_rfl) rfl (by kernel_rfl) (by kernel_rfl) (by kernel_rfl) (by kernel_rfl) (fun _ _ _ h => h) HF.out rfl ?_ rfl rfl ?_ ?_
      rotate_left
      · intro w' hF; clear hF; go_simp; try rfl
      rotate_left
      · simp only [Act.put]; exact rfl
      refine Calm.takeL 15 (i := 4) (v := ?_) (a' := ?_) (l' := #[true, true, true, true, true, false, false, false, false, false, false, false, false, false, false]) (d := some 31) (by kernel_rfl) rfl (by kernel_rfl) (by kernel_rfl) (by kernel_rfl) (by kernel_rfl) (fun _ _ _ h => h) HF.out rfl ?_ rfl rfl ?_ ?_
      rotate_left
      · intro w' hF; clear hF; go_simp; try rfl
      rotate_left
      · simp only [Act.put]; exact rfl
      refine Calm.takeL 15 (i := 5) (v := ?_) (a' := ?_) (l' := #[true, true, true, true, true, true, false, false, false, false, false, false, false, false, false]) (d := some 32) (by kernel_rfl) rfl (by kernel_rfl) (by kernel_rfl) (by kernel_rfl) (by kernel_rfl) (fun _ _ _ h => h) HF.out rfl ?_ rfl rfl ?_ ?_
      rotate_left
      · intro w' hF; have f10 := hF.2.1.out; have f20 := hF.2.2.1.out; clear hF; go_simp; try rfl
      rotate_left
      · simp only [Act.put]; exact rfl
      refine Calm.takeL 15 (i := 6) (v := ?_) (a' := ?_) (l' := #[true, true, true, true, true, true, true, false, false, false, false, false, false, false, false]) (d := some 33) (by kernel_rfl) rfl (by kernel_rfl) (by kernel_rfl) (by kernel_rfl) (by kernel_rfl) (fun _ _ _ h => h) HF.out rfl ?_ rfl rfl ?_ ?_
      rotate_left
      · intro w' hF; clear hF; go_simp; try rfl
      rotate_left
      · simp only [Act.put]; exact rfl
      refine Calm.takeL 15 (i := 7) (v := ?_) (a' := ?_) (l' := #[true, true, true, true, true, true, true, true, false, false, false, false, false, false, false]) (d := some 34) (by kernel_rfl) rfl (by kernel_rfl) (by kernel_rfl) (by kernel_rfl) (by kernel_rfl) (fun _ _ _ h => h) HF.out rfl ?_ rfl rfl ?_ ?_
      rotate_left
      · intro w' hF; clear hF; go_simp; try rfl
      rotate_left
      · simp only [Act.put]; exact rfl
      refine Calm.takeL 15 (i := 8) (v := ?_) (a' := ?_) (l' := #[true, true, true, true, true, true, true, true, true, false, false, false, false, false, false]) (d := some 35) (by kernel_rfl) rfl (by kernel_rfl) (by kernel_rfl) (by kernel_rfl) (by kernel_rfl) (fun _ _ _ h => h) HF.out rfl ?_ rfl rfl ?_ ?_
      rotate_left
      · intro w' hF; clear hF; go_simp; try rfl
      rotate_left
      · simp only [Act.put]; exact rfl
      refine Calm.takeL 15 (i := 9) (v := ?_) (a' := ?_) (l' := #[true, true, true, true, true, true, true, true, true, true, false, false, false, false, false]) (d := some 36) (by kernel_rfl) rfl (by kernel_rfl) (by kernel_rfl) (by kernel_rfl) (by kernel_rfl) (fun _ _ _ h => h) HF.out rfl ?_ rfl rfl ?_ ?_
      rotate_left
      · intro w' hF; clear hF; go_simp; try rfl
      rotate_left
      · simp only [Act.put]; exact rfl
      refine Calm.takeL 15 (i := 10) (v := ?_) (a' := ?_) (l' := #[true, true, true, true, true, true, true, true, true, true, true, false, false, false, false]) (d := some 37) (by kernel_rfl) rfl (by kernel_rfl) (by kernel_rfl) (by kernel_rfl) (by kernel_rfl) (fun _ _ _ h => h) HF.out rfl ?_ rfl rfl ?_ ?_
      rotate_left
      · intro w' hF; have f10 := hF.2.1.out; have f20 := hF.2.2.1.out; clear hF; go_simp; try rfl
      rotate_left
      · simp only [Act.put]; exact rfl
      refine Calm.one (i := 11) (l' := #[true, true, true, true, true, true, true, true, true, true, true, true, false, false, false]) (by kernel_rfl) rfl rfl rfl fun K hK => ?_
      go_simp
      refine (rmake_any s _ xs _ HF.out.2.2.2.1 (by have := LX.out; omega)).mono ?_
      rintro e yB ⟨v, rfl, n, hb⟩
      obtain ⟨sB, mB, lB, cB, rfl, n⟩ : ∃ s9 m9 l9 c9, v = .agg #[.bool s9, .slice m9 l9 c9] ∧ RInt yB (.agg #[.bool s9, .slice m9 l9 c9]) (sg s (val xs)) := by obtain ⟨b, j, a, c, rfl, hx⟩ := n; exact ⟨b, a, _, c, rfl, b, j, a, c, rfl, hx⟩
      have HF' := hide (And.intro (HF.out.1.trans ((hb).mono HF.out.1.size)) (And.intro (HF.out.2.1.step (hb)) (And.intro (HF.out.2.2.1.step (hb)) (And.intro (HF.out.2.2.2.1.below (hb)) (And.intro (HF.out.2.2.2.2.1.below (hb)) (HF.out.2.2.2.2.2.below (hb)))))))
      have TV := hide (n)
      refine hK _ _ (fun _ => HF'.out) ?_
      clear hK K HF hb n
      have HF := hide HF'.out
      clear HF'
      refine Calm.one (i := 12) (l' := #[true, true, true, true, true, true, true, true, true, true, true, true, true, false, false]) (by kernel_rfl) rfl rfl rfl fun K hK => ?_
      go_simp
      have al := below_alloc yB (.cells #[.bool sB, .slice mB lB cB] 54)
      have HF' := hide (And.intro (HF.out.1.trans ((al).mono HF.out.1.size)) (And.intro (HF.out.2.1.step (al)) (And.intro (HF.out.2.2.1.step (al)) (And.intro (HF.out.2.2.2.1.below (al)) (And.intro (HF.out.2.2.2.2.1.below (al)) (HF.out.2.2.2.2.2.below (al)))))))
      have BXe := hide (Box2.new yB 54 (.bool sB) (.slice mB lB cB))
      replace TV := hide (TV.out.below (al))
      have GEe := hide (HF.out.1.size)
      refine hK _ _ (fun _ => HF'.out) ?_
      clear hK K HF al
      have HF := hide HF'.out
      clear HF'
      generalize yB.alloc (.cells #[.bool sB, .slice mB lB cB] 54) = wze at *
      generalize yB.heap.size = ge at *
      refine Calm.one (i := 13) (l' := #[true, true, true, true, true, true, true, true, true, true, true, true, true, true, false]) (by kernel_rfl) rfl rfl rfl fun K hK => ?_
      obtain ⟨zx, ho, hx⟩ := HF.out.2.2.2.2.2
      have he0 := BXe.out.cell0
      have he1 := BXe.out.cell1
      refine wp_app2 _ (.tmp 27) (.tmp 39) 27 rfl w.heap.size 54 _ Tryd.underlying27 TR.out.1 TR.out.2.1 TR.out.2.2.1 TR.out.2.2.2 u5 T.length zx rfl ho ge 1 sB mB lB cB rfl he0 he1 (by have := TL.out; omega) (by have := HF.out.1.size; omega) ?_
      intro vB xB ho' hg hob
      clear he0 he1
      refine hK _ _ (fun h => absurd h (by decide)) ?_
      clear hK K
      refine Calm.one (i := 14) (l' := #[true, true, true, true, true, true, true, true, true, true, true, true, true, true, true]) (by kernel_rfl) rfl rfl rfl fun K hK => ?_
      go_simp
      refine hK _ _ (fun h => absurd h (by decide)) ?_
      clear hK K
      refine Calm.done (by kernel_rfl) ?_
      have HK2 := hide (show Spares wze xB from Own2.spares ho hg)
      have HO := hide hob
      have LB2 := hide (ListR.app ho hx TV.out ho' hg)
      have LA2 := hide (HF.out.2.2.2.2.1.other hg HK2.out (fun g h e => AP.out g h e))
      have HB2 := hide (below_grow HF.out.1 hg HF.out.1.size (fun g e => (HF.out.2.2.2.2.2.lt e).1))
      have AP2 : Hid (∀ g, vA.ownBlock = some g → vB.ownBlock ≠ some g) := hide (fun g h1 h2 => by rcases HO.out with e | e; exact AP.out g h1 (e ▸ h2); have h3 := (HF.out.2.2.2.2.1.lt h1).2; rw [e] at h2; simp only [Option.some.injEq] at h2; omega)
      clear HF ho hx ho' hg hob TV BXe
      go_wp2
      go_roundw
      case rel => exact ⟨k + 1, by omega, by go_num, HB2.out, by rw [TK.out]; exact LA2.out, by rw [TK.out]; exact LB2.out, AP2.out⟩
      case measure => simp [intOf]; omega
    · have e : k = ns.length := by omega
      subst e
      have ET : Hid ((numsZ ns).take ns.length = numsZ ns) := hide (List.take_of_length_le (by simp [numsZ]))
      rw [ET.out] at LA LB
      go_wp2
      go_ret2
      exact ⟨_, _, rfl, LA.out.ints, LB.out.rints, HB.out⟩
end Go.Proofs.YtdafdfgkfkanjaaDoor

namespace Go.Proofs.YtdafdfgkfkanjaaDoor
open Go.RowKit Go.Shelf
attribute [local go_sem] Oper.semAt_some

/-- the bytes from a place on, up to the first ] -/
def rem (s : ByteArray) (k : Nat) : List UInt8 := ((bl s).drop k).takeWhile (· != 93)
def pcs (s : ByteArray) (k : Nat) : List ByteArray := splB 32 (mkB (rem s k))
theorem bl_get (s : ByteArray) (j : Nat) (h : j < s.size) : ∃ c, (bl s)[j]? = some c ∧ c.toNat = bt s j := by
  refine ⟨s[j], ?_, bt_get s j h⟩
  unfold bl
  rw [List.getElem?_eq_getElem (by rw [← bl_len] at h; exact h)]
  rfl
theorem bl_drop (s : ByteArray) (a t : Nat) (h1 : a ≤ t) (h2 : t ≤ s.size) : (bl s).drop a = bl (s.extract a t) ++ (bl s).drop t := by
  rw [bl_ext]
  conv => lhs; rw [← List.take_append_drop t (bl s)]
  rw [List.drop_append_of_le_length (by rw [List.length_take, bl_len]; omega)]
theorem bl_mem {s : ByteArray} {a t : Nat} (h2 : t ≤ s.size) {c : UInt8} (h : c ∈ bl (s.extract a t)) : ∃ j, a ≤ j ∧ j < t ∧ bt s j = c.toNat := by
  rw [bl_ext] at h
  obtain ⟨i, hi⟩ := List.getElem?_of_mem h
  rw [List.getElem?_drop] at hi
  have hlt := (List.getElem?_eq_some_iff.1 hi).1
  rw [List.length_take, bl_len] at hlt
  rw [List.getElem?_take, if_pos (by omega)] at hi
  obtain ⟨c', h1, h3⟩ := bl_get s (a + i) (by omega)
  rw [h1] at hi
  cases hi
  exact ⟨a + i, by omega, by omega, h3.symm⟩
/-- no blank and no ] between -/
def Clear (s : ByteArray) (a t : Nat) : Prop := ∀ j, a ≤ j → j < t → bt s j ≠ 32 ∧ bt s j ≠ 93
theorem Clear.no {s : ByteArray} {a t : Nat} (h : Clear s a t) (ht : t ≤ s.size) : (32 : UInt8) ∉ bl (s.extract a t) ∧ ∀ c ∈ bl (s.extract a t), (c != 93) = true := by
  constructor
  · intro hm
    obtain ⟨j, h1, h2, h3⟩ := bl_mem ht hm
    exact (h j h1 h2).1 h3
  · intro c hc
    obtain ⟨j, h1, h2, h3⟩ := bl_mem ht hc
    have := (h j h1 h2).2
    simp only [bne_iff_ne, ne_eq]
    rintro rfl
    exact this h3
theorem drop_at {s : ByteArray} {t : Nat} (h : t < s.size) : ∃ c, c.toNat = bt s t ∧ (bl s).drop t = c :: (bl s).drop (t + 1) := by
  obtain ⟨c, h1, h2⟩ := bl_get s t h
  refine ⟨c, h2, ?_⟩
  rw [List.drop_eq_getElem_cons (by rw [bl_len]; exact h), (List.getElem?_eq_some_iff.1 h1).2]
theorem rem_end {s : ByteArray} {a t : Nat} (h1 : a ≤ t) (hc : Clear s a t) (h : t = s.size ∨ (t < s.size ∧ bt s t = 93)) : rem s a = bl (s.extract a t) := by
  have ht : t ≤ s.size := by omega
  unfold rem
  rw [bl_drop s a t h1 ht]
  rw [List.takeWhile_append_of_pos (hc.no ht).2]
  rcases h with rfl | ⟨h, hb⟩
  · rw [List.drop_eq_nil_of_le (by rw [bl_len]; exact Nat.le_refl _)]; simp
  · obtain ⟨c, h2, h3⟩ := drop_at h
    have : c = 93 := UInt8.toNat_inj.1 (by rw [h2, hb]; rfl)
    subst this
    rw [h3]
    simp
theorem pcs_end {s : ByteArray} {a t : Nat} (h1 : a ≤ t) (hc : Clear s a t) (h : t = s.size ∨ (t < s.size ∧ bt s t = 93)) : pcs s a = [s.extract a t] := by
  unfold pcs
  rw [rem_end h1 hc h, mkB_bl]
  exact splB_none (hc.no (by omega)).1
theorem pcs_next {s : ByteArray} {a t : Nat} (h1 : a ≤ t) (hc : Clear s a t) (h : t < s.size) (hb : bt s t = 32) : pcs s a = s.extract a t :: pcs s (t + 1) ∧ (rem s a).length = (t - a) + 1 + (rem s (t + 1)).length := by
  obtain ⟨c, h2, h3⟩ := drop_at h
  have e : c = 32 := UInt8.toNat_inj.1 (by rw [h2, hb]; rfl)
  subst e
  have hr : rem s a = bl (s.extract a t) ++ 32 :: rem s (t + 1) := by
    unfold rem
    rw [bl_drop s a t h1 (by omega), List.takeWhile_append_of_pos (hc.no (by omega)).2, h3]
    simp
  constructor
  · unfold pcs splB
    rw [bl_mkB, bl_mkB, hr, spl_at (hc.no (by omega)).1, List.map_cons, mkB_bl]
  · rw [hr, List.length_append, List.length_cons, bl_len, ByteArray.size_extract]
    omega
theorem tot_few : ∀ ps : List ByteArray, ps.length ≤ tot ps
  | [] => Nat.zero_le _
  | p :: ps => by have := tot_few ps; unfold tot at *; simp only [List.length_cons, List.map_cons, List.sum_cons]; omega
theorem slice2 (s : ByteArray) (a t : Nat) (h1 : a ≤ t) (h2 : t ≤ s.size) (W : World) : (Instr.slice 9 (.string s) (some (.int .i64 (a : Nat))) (some (.int .i64 (t : Nat))) none).run Tryd.prog W = .ok (.string (s.extract a t)) W := by
  have u := run_underlying (P := Tryd.prog) Tryd.underlying9 W
  go_simp
theorem rint_cells {w : World} {v : Value} {z : Int} (h : RInt w v z) : ∃ s m n c, v = .agg #[.bool s, .slice m n c] ∧ RInt w (.agg #[.bool s, .slice m n c]) z := by
  obtain ⟨b, j, a, c, rfl, hx⟩ := h
  exact ⟨b, a, _, c, rfl, b, j, a, c, rfl, hx⟩
/-- what the document's Read answers -/
def RefR (s : ByteArray) (p : Int) (zs : List Int) : Prop :=
  (hp s 91 = false ∧ p = 0) ∨
  (hp s 91 = true ∧ 1 < s.size ∧ bt s 1 = 93 ∧ ((2 < s.size ∧ p = 2) ∨ (s.size = 2 ∧ p = -1 ∧ zs = []))) ∨
  (hp s 91 = true ∧ ¬ (1 < s.size ∧ bt s 1 = 93) ∧ ((∃ pre x a b, pre ++ [x] <+: pcs s 1 ∧ (∃ zs, AllRd pre zs) ∧ IRd x 0 a b ∧ a ≠ 0 ∧ p = ((1 + tot pre + b : Nat) : Int)) ∨
    (∃ zs', AllRd (pcs s 1) zs' ∧ ((1 + (rem s 1).length = s.size ∧ p = (s.size : Int)) ∨ (1 + (rem s 1).length + 1 < s.size ∧ p = ((1 + (rem s 1).length + 1 : Nat) : Int)) ∨ (1 + (rem s 1).length + 1 = s.size ∧ p = -1 ∧ zs = zs')))))

def RfPost (s : ByteArray) (w : World) (e : Ending) (w' : World) : Prop := ∃ v p zs, e = .returned (.tuple #[v, .int .i64 p]) ∧ RefR s p zs ∧ (p = -1 → RInts w' v zs) ∧ Below w.heap.size w w'
set_option maxRecDepth 100000 in
set_option maxHeartbeats 4000000 in
theorem rfread_any (s : ByteArray) (w : World) (hs : s.size ≤ 60000) :
    Calls Tryd.prog 13 #[.string s] w fun e w' => RfPost s w e w' := by
  refine (callsIn_wide (n := 3)).1 ?_
  refine callsIn_of_wp Tryd.func13 rfl trivial ?_ rfl
  simp only [Tryd.ntmps13, List.size_toArray, List.length_cons, List.length_nil, Nat.reduceAdd, Nat.reduceSub, Array.replicate_succ, Array.replicate_zero, List.push_toArray, List.append_toArray, List.nil_append, List.cons_append]
  by_cases hz : s.size = 0
  · gi_wp2
    go_ret2
    exact ⟨_, 0, [], rfl, .inl ⟨by unfold hp; simp [hz], rfl⟩, fun h => by omega, Below.refl _ _⟩
  · have hz0 : 0 < s.size := by omega
    have hzz : ((s.size : Int) == 0) = false := by rw [beq_eq_false_iff_ne]; omega
    have hb0 := bt_get s 0 hz0
    cases hh : hp s 91 with
    | false =>
      have hn : (((bt s 0 : Nat) : Int) != 91) = true := by have h1 : bt s 0 ≠ 91 := hp_no hh hz0; simp; omega
      gi_wp2
      go_ret2
      exact ⟨_, 0, [], rfl, .inl ⟨hh, rfl⟩, fun h => by omega, Below.refl _ _⟩
    | true =>
      have hn : (((bt s 0 : Nat) : Int) != 91) = false := by have := (hp_yes hh).2; rw [this]; rfl
      have HH := hide hh
      obtain ⟨i0, hi0, hq0, hq1, hq2⟩ := info_parts Tryd.infoRB
      clear hh
      by_cases h1 : 1 < s.size
      · have hb1 := bt_get s 1 h1
        have g1 : (1 : Int) < (s.size : Int) := by omega
        by_cases h93 : bt s 1 = 93
        · have e1 : (((bt s 1 : Nat) : Int) == 93) = true := by rw [h93]; rfl
          by_cases h2 : 2 < s.size
          · gi_wp2
            go_ret2
            exact ⟨_, 2, [], rfl, .inr (.inl ⟨HH.out, h1, h93, .inl ⟨h2, rfl⟩⟩), fun h => by omega, Below.refl _ _⟩
          · gi_wp2
            go_ret2
            exact ⟨_, -1, [], rfl, .inr (.inl ⟨HH.out, h1, h93, .inr ⟨by omega, rfl, rfl⟩⟩), fun _ => ⟨_, 0, rfl, Nat.le_refl _, by simp [maxLen], fun h => absurd rfl h⟩, below_alloc _ _⟩
        · have e1 : (((bt s 1 : Nat) : Int) == 93) = false := by simp; omega
          have H1 : Hid (¬ (1 < s.size ∧ bt s 1 = 93)) := hide (fun h => h93 h.2)
          gi_wp2
          gi_loopg [4, 5] s.size (fun k v4 v5 wr => ∃ (pre : List ByteArray) (zs : List Int) (at' : Nat), at' + k = s.size + 1 ∧ v5 = .int .i64 (at' : Nat) ∧ at' = 1 + tot pre ∧ at' ≤ s.size ∧ AllRd pre zs ∧ ListR wr w.heap.size v4 zs ∧ Below w.heap.size w wr ∧ pcs s 1 = pre ++ pcs s at' ∧ at' + (rem s at').length = 1 + (rem s 1).length)
          case atStart => exact ⟨[], [], 1, by omega, rfl, rfl, by omega, AllRd.nil, ListR.nil _ _, Below.refl _ _, by simp, by omega⟩
          case round =>
            obtain ⟨pre, zs, at', hk, rfl, ha, hle, har, hli, hbw, hpc, hrm⟩ := hrel
            have HA := hide ha
            have AR := hide har
            have LI := hide hli
            have HB := hide hbw
            have HP := hide hpc
            have HR := hide hrm
            clear ha har hli hbw hpc hrm
            gi_wp2
            gi_loopg [6] (s.size - at') (fun k2 v6 wr2 => ∃ t : Nat, at' ≤ t ∧ t + k2 = s.size ∧ v6 = .int .i64 (t : Nat) ∧ Clear s at' t ∧ wr2 = wr)
            case atStart => exact ⟨at', Nat.le_refl _, by omega, rfl, fun j h1 h2 => absurd h1 (by omega), rfl⟩
            case round =>
              obtain ⟨t, hat, hk2, rfl, hcl, rfl⟩ := hrel
              have CL := hide hcl
              clear hcl
              by_cases hlt : t < s.size
              · have hbt0 := bt_get s t hlt
                have g0 : (t : Int) < (s.size : Int) := by omega
                by_cases hbt : bt s t = 32
                · have q1 : (((bt s t : Nat) : Int) != 32) = false := by rw [hbt]; rfl
                  have XS : Hid ((s.extract at' t).size ≤ 60000) := hide (by rw [ByteArray.size_extract]; omega)
                  have hts : t ≤ s.size := by omega
                  have hsl := slice2 s at' t hat hts
                  gi_wp2_with fail
                  clear hsl hts
                  refine ⟨trivial, (callsIn_wide.2 (rread2_any (s.extract at' t) _ (by have := XS.out; omega))).mono ?_⟩
                  rintro e y1 ⟨u, z, p, rfl, hi, hr, hb⟩
                  obtain ⟨sb, sm, sn, sc, rfl, hi⟩ := rint_cells hi
                  have RI := hide hi
                  replace HB := hide (HB.out.trans (hb.mono HB.out.size))
                  replace LI := hide (LI.out.below hb)
                  clear hi hb
                  gi_upto_region 13 with fail
                  have b1 := below_alloc y1 (.cells #[.bool sb, .slice sm sn sc] 54)
                  have XB := hide (Box2.new y1 54 (.bool sb) (.slice sm sn sc))
                  have GXY : Hid (w.heap.size ≤ y1.heap.size) := hide HB.out.size
                  replace HB := hide (HB.out.trans (b1.mono HB.out.size))
                  replace LI := hide (LI.out.below b1)
                  replace RI := hide (RI.out.below b1)
                  clear b1
                  generalize y1.alloc (.cells #[.bool sb, .slice sm sn sc] 54) = y2 at *
                  obtain ⟨gx, hgx⟩ : ∃ g, g = y1.heap.size := ⟨_, rfl⟩
                  rw [← hgx] at XB
                  rw [← hgx]
                  clear hgx
                  have PC := hide (pcs_next hat CL.out hlt hbt)
                  rcases hr with ⟨ea, eb, hr, hne, rfl, rfl⟩ | ⟨hr, rfl⟩
                  · have BS : eb ≤ 200000 := by have := hr.bsmall; have := XS.out; omega
                    have RD := hide hr
                    have TT := hide hne
                    clear hr hne
                    gi_wp2
                    go_ret2
                    exact ⟨_, _, [], rfl, .inr (.inr ⟨HH.out, H1.out, .inl ⟨pre, s.extract at' t, ea, eb, by rw [HP.out, PC.out.1]; exact ⟨pcs s (t + 1), by simp⟩, ⟨zs, AR.out⟩, RD.out, TT.out, by rw [← HA.out]; omega⟩⟩), fun h => by omega, HB.out⟩
                  · have RD := hide hr
                    clear hr
                    have al := below_alloc y2 (.cells #[.bool sb, .slice sm sn sc] 54)
                    have TMP := hide (Box2.new y2 54 (.bool sb) (.slice sm sn sc))
                    have LA := hide (LI.out.below al)
                    have IA := hide (RI.out.below al)
                    have BA := hide (HB.out.trans (al.mono HB.out.size))
                    obtain ⟨xs, ho, hx⟩ := LA.out
                    have OO := hide ho
                    have OX := hide hx
                    have LL : Hid (zs.length ≤ 70000) := hide (by have h1 := AR.out.1; have h2 := tot_few pre; have := HA.out; omega)
                    have d0 := XB.out.cell0
                    have d1 := XB.out.cell1
                    clear al ho hx
                    have hq : ((t : Int) == (s.size : Int)) = false := by simp; omega
                    have hbt' := bt_get s t hlt
                    have hbq : (((bt s t : Nat) : Int) == 93) = false := by rw [hbt]; rfl
                    gi_wp2_with (gi_at_builtin; refine wpListIn_app2 _ rfl _ _ 27 rfl w.heap.size 54 i0 Tryd.underlying27 hi0 hq0 hq1 hq2 _ _ _ rfl OO.out y2.heap.size 1 sb sm sn sc rfl TMP.out.cell0 TMP.out.cell1 (by have := LL.out; omega) BA.out.size ?_; intro v' y3 hown hgrow hbl; have LN := hide (ListR.app OO.out OX.out IA.out hown hgrow); have BN := hide (below_grow BA.out hgrow BA.out.size (fun g e => (LA.out.lt e).1)); clear hown hgrow hbl d0 d1)
                    gi_roundg (s.size - t)
                    case measure => omega
                    exact ⟨pre ++ [s.extract at' t], zs ++ [z], t + 1, by omega, by go_num, by rw [tot_app, ByteArray.size_extract]; have := HA.out; omega, by omega, AR.out.app RD.out, LN.out, BN.out, by rw [HP.out, PC.out.1]; simp, by have h1 := HR.out; have h2 := PC.out.2; omega⟩
                · by_cases hbt9 : bt s t = 93
                  · have q1 : (((bt s t : Nat) : Int) != 32) = true := by rw [hbt9]; rfl
                    have q2 : (((bt s t : Nat) : Int) != 93) = false := by rw [hbt9]; rfl
                    have hbt := hbt9
                    have HE : Hid (t = s.size ∨ (t < s.size ∧ bt s t = 93)) := hide (.inr ⟨hlt, hbt9⟩)
                    have XS : Hid ((s.extract at' t).size ≤ 60000) := hide (by rw [ByteArray.size_extract]; omega)
                    have hts : t ≤ s.size := by omega
                    have hsl := slice2 s at' t hat hts
                    gi_wp2_with fail
                    clear hsl hts
                    refine ⟨trivial, (callsIn_wide.2 (rread2_any (s.extract at' t) _ (by have := XS.out; omega))).mono ?_⟩
                    rintro e y1 ⟨u, z, p, rfl, hi, hr, hb⟩
                    obtain ⟨sb, sm, sn, sc, rfl, hi⟩ := rint_cells hi
                    have RI := hide hi
                    replace HB := hide (HB.out.trans (hb.mono HB.out.size))
                    replace LI := hide (LI.out.below hb)
                    clear hi hb
                    gi_upto_region 13 with fail
                    have b1 := below_alloc y1 (.cells #[.bool sb, .slice sm sn sc] 54)
                    have XB := hide (Box2.new y1 54 (.bool sb) (.slice sm sn sc))
                    have GXY : Hid (w.heap.size ≤ y1.heap.size) := hide HB.out.size
                    replace HB := hide (HB.out.trans (b1.mono HB.out.size))
                    replace LI := hide (LI.out.below b1)
                    replace RI := hide (RI.out.below b1)
                    clear b1
                    generalize y1.alloc (.cells #[.bool sb, .slice sm sn sc] 54) = y2 at *
                    obtain ⟨gx, hgx⟩ : ∃ g, g = y1.heap.size := ⟨_, rfl⟩
                    rw [← hgx] at XB
                    rw [← hgx]
                    clear hgx
                    have PC := hide (And.intro (pcs_end hat CL.out HE.out) (rem_end hat CL.out HE.out))
                    rcases hr with ⟨ea, eb, hr, hne, rfl, rfl⟩ | ⟨hr, rfl⟩
                    · have BS : eb ≤ 200000 := by have := hr.bsmall; have := XS.out; omega
                      have RD := hide hr
                      have TT := hide hne
                      clear hr hne
                      gi_wp2
                      go_ret2
                      exact ⟨_, _, [], rfl, .inr (.inr ⟨HH.out, H1.out, .inl ⟨pre, s.extract at' t, ea, eb, by rw [HP.out, PC.out.1]; exact List.prefix_refl _, ⟨zs, AR.out⟩, RD.out, TT.out, by rw [← HA.out]; omega⟩⟩), fun h => by omega, HB.out⟩
                    · have RD := hide hr
                      clear hr
                      have al := below_alloc y2 (.cells #[.bool sb, .slice sm sn sc] 54)
                      have TMP := hide (Box2.new y2 54 (.bool sb) (.slice sm sn sc))
                      have LA := hide (LI.out.below al)
                      have IA := hide (RI.out.below al)
                      have BA := hide (HB.out.trans (al.mono HB.out.size))
                      obtain ⟨xs, ho, hx⟩ := LA.out
                      have OO := hide ho
                      have OX := hide hx
                      have LL : Hid (zs.length ≤ 70000) := hide (by have h1 := AR.out.1; have h2 := tot_few pre; have := HA.out; omega)
                      have d0 := XB.out.cell0
                      have d1 := XB.out.cell1
                      clear al ho hx
                      have hq : ((t : Int) == (s.size : Int)) = false := by simp; omega
                      have hbt' := bt_get s t hlt
                      have hbq : (((bt s t : Nat) : Int) == 93) = true := by rw [hbt]; rfl
                      by_cases hl2 : t + 1 < s.size
                      · gi_wp2_with (gi_at_builtin; refine wpListIn_app2 _ rfl _ _ 27 rfl w.heap.size 54 i0 Tryd.underlying27 hi0 hq0 hq1 hq2 _ _ _ rfl OO.out y2.heap.size 1 sb sm sn sc rfl TMP.out.cell0 TMP.out.cell1 (by have := LL.out; omega) BA.out.size ?_; intro v' y3 hown hgrow hbl; have LN := hide (ListR.app OO.out OX.out IA.out hown hgrow); have BN := hide (below_grow BA.out hgrow BA.out.size (fun g e => (LA.out.lt e).1)); clear hown hgrow hbl d0 d1)
                        go_ret2
                        have hcast : ((t : Int) + 1) = ((1 + (rem s 1).length + 1 : Nat) : Int) := by have h1 := HR.out; have h2 := PC.out.2; rw [h2, bl_len, ByteArray.size_extract] at h1; omega
                        exact ⟨_, _, [], rfl, .inr (.inr ⟨HH.out, H1.out, .inr ⟨zs ++ [z], by rw [HP.out, PC.out.1]; exact AR.out.app RD.out, .inr (.inl ⟨by have h1 := HR.out; have h2 := PC.out.2; rw [h2, bl_len, ByteArray.size_extract] at h1; omega, hcast⟩)⟩⟩), fun h => by omega, BN.out⟩
                      · have hl3 : ¬ ((t : Int) + 1 < (s.size : Int)) := by omega
                        gi_wp2_with (gi_at_builtin; refine wpListIn_app2 _ rfl _ _ 27 rfl w.heap.size 54 i0 Tryd.underlying27 hi0 hq0 hq1 hq2 _ _ _ rfl OO.out y2.heap.size 1 sb sm sn sc rfl TMP.out.cell0 TMP.out.cell1 (by have := LL.out; omega) BA.out.size ?_; intro v' y3 hown hgrow hbl; have LN := hide (ListR.app OO.out OX.out IA.out hown hgrow); have BN := hide (below_grow BA.out hgrow BA.out.size (fun g e => (LA.out.lt e).1)); clear hown hgrow hbl d0 d1)
                        go_ret2
                        refine ⟨v', -1, (zs ++ [z] : List Int), ?_, ?_, ?_, ?_⟩
                        · rfl
                        · exact .inr (.inr ⟨HH.out, H1.out, .inr ⟨zs ++ [z], by rw [HP.out, PC.out.1]; exact AR.out.app RD.out, .inr (.inr ⟨by have h1 := HR.out; have h2 := PC.out.2; rw [h2, bl_len, ByteArray.size_extract] at h1; omega, rfl, rfl⟩)⟩⟩)
                        · exact fun _ => LN.out.rints
                        · exact BN.out
                  · have q1 : (((bt s t : Nat) : Int) != 32) = true := by simp; omega
                    have q2 : (((bt s t : Nat) : Int) != 93) = true := by simp; omega
                    have CN : Hid (Clear s at' (t + 1)) := hide (fun j h1 h2 => by rcases Nat.lt_or_ge j t with h | h; exact CL.out j h1 h; have e : j = t := (by omega); subst e; exact ⟨hbt, hbt9⟩)
                    gi_wp2
                    gi_roundg (s.size - (t + 1))
                    case measure => omega
                    exact ⟨t + 1, by omega, by omega, by go_num, CN.out, rfl⟩
              · have HT : Hid (t = s.size) := hide (by omega)
                have HE : Hid (t = s.size ∨ (t < s.size ∧ bt s t = 93)) := hide (.inl HT.out)
                have g0 : ¬ (t : Int) < (s.size : Int) := by omega
                have XS : Hid ((s.extract at' t).size ≤ 60000) := hide (by rw [ByteArray.size_extract]; omega)
                have hts : t ≤ s.size := by omega
                have hsl := slice2 s at' t hat hts
                gi_wp2_with fail
                clear hsl hts
                refine ⟨trivial, (callsIn_wide.2 (rread2_any (s.extract at' t) _ (by have := XS.out; omega))).mono ?_⟩
                rintro e y1 ⟨u, z, p, rfl, hi, hr, hb⟩
                obtain ⟨sb, sm, sn, sc, rfl, hi⟩ := rint_cells hi
                have RI := hide hi
                replace HB := hide (HB.out.trans (hb.mono HB.out.size))
                replace LI := hide (LI.out.below hb)
                clear hi hb
                gi_upto_region 13 with fail
                have b1 := below_alloc y1 (.cells #[.bool sb, .slice sm sn sc] 54)
                have XB := hide (Box2.new y1 54 (.bool sb) (.slice sm sn sc))
                have GXY : Hid (w.heap.size ≤ y1.heap.size) := hide HB.out.size
                replace HB := hide (HB.out.trans (b1.mono HB.out.size))
                replace LI := hide (LI.out.below b1)
                replace RI := hide (RI.out.below b1)
                clear b1
                generalize y1.alloc (.cells #[.bool sb, .slice sm sn sc] 54) = y2 at *
                obtain ⟨gx, hgx⟩ : ∃ g, g = y1.heap.size := ⟨_, rfl⟩
                rw [← hgx] at XB
                rw [← hgx]
                clear hgx
                have PC := hide (And.intro (pcs_end hat CL.out HE.out) (rem_end hat CL.out HE.out))
                rcases hr with ⟨ea, eb, hr, hne, rfl, rfl⟩ | ⟨hr, rfl⟩
                · have BS : eb ≤ 200000 := by have := hr.bsmall; have := XS.out; omega
                  have RD := hide hr
                  have TT := hide hne
                  clear hr hne
                  gi_wp2
                  go_ret2
                  exact ⟨_, _, [], rfl, .inr (.inr ⟨HH.out, H1.out, .inl ⟨pre, s.extract at' t, ea, eb, by rw [HP.out, PC.out.1]; exact List.prefix_refl _, ⟨zs, AR.out⟩, RD.out, TT.out, by rw [← HA.out]; omega⟩⟩), fun h => by omega, HB.out⟩
                · have RD := hide hr
                  clear hr
                  have al := below_alloc y2 (.cells #[.bool sb, .slice sm sn sc] 54)
                  have TMP := hide (Box2.new y2 54 (.bool sb) (.slice sm sn sc))
                  have LA := hide (LI.out.below al)
                  have IA := hide (RI.out.below al)
                  have BA := hide (HB.out.trans (al.mono HB.out.size))
                  obtain ⟨xs, ho, hx⟩ := LA.out
                  have OO := hide ho
                  have OX := hide hx
                  have LL : Hid (zs.length ≤ 70000) := hide (by have h1 := AR.out.1; have h2 := tot_few pre; have := HA.out; omega)
                  have d0 := XB.out.cell0
                  have d1 := XB.out.cell1
                  clear al ho hx
                  have hq : ((t : Int) == (s.size : Int)) = true := by simp; omega
                  gi_wp2_with (gi_at_builtin; refine wpListIn_app2 _ rfl _ _ 27 rfl w.heap.size 54 i0 Tryd.underlying27 hi0 hq0 hq1 hq2 _ _ _ rfl OO.out y2.heap.size 1 sb sm sn sc rfl TMP.out.cell0 TMP.out.cell1 (by have := LL.out; omega) BA.out.size ?_; intro v' y3 hown hgrow hbl; have LN := hide (ListR.app OO.out OX.out IA.out hown hgrow); have BN := hide (below_grow BA.out hgrow BA.out.size (fun g e => (LA.out.lt e).1)); clear hown hgrow hbl d0 d1)
                  go_ret2
                  exact ⟨_, _, [], rfl, .inr (.inr ⟨HH.out, H1.out, .inr ⟨zs ++ [z], by rw [HP.out, PC.out.1]; exact AR.out.app RD.out, .inl ⟨by have h1 := HR.out; have h2 := PC.out.2; rw [h2, bl_len, ByteArray.size_extract] at h1; omega, by rw [HT.out]⟩⟩⟩), fun h => by omega, BN.out⟩
      · have g1 : ¬ (1 : Int) < (s.size : Int) := by omega
        have H1 : Hid (¬ (1 < s.size ∧ bt s 1 = 93)) := hide (fun h => h1 h.1)
        gi_wp2
        gi_loopg [4, 5] s.size (fun k v4 v5 wr => ∃ (pre : List ByteArray) (zs : List Int) (at' : Nat), at' + k = s.size + 1 ∧ v5 = .int .i64 (at' : Nat) ∧ at' = 1 + tot pre ∧ at' ≤ s.size ∧ AllRd pre zs ∧ ListR wr w.heap.size v4 zs ∧ Below w.heap.size w wr ∧ pcs s 1 = pre ++ pcs s at' ∧ at' + (rem s at').length = 1 + (rem s 1).length)
        case atStart => exact ⟨[], [], 1, by omega, rfl, rfl, by omega, AllRd.nil, ListR.nil _ _, Below.refl _ _, by simp, by omega⟩
        case round =>
          obtain ⟨pre, zs, at', hk, rfl, ha, hle, har, hli, hbw, hpc, hrm⟩ := hrel
          have HA := hide ha
          have AR := hide har
          have LI := hide hli
          have HB := hide hbw
          have HP := hide hpc
          have HR := hide hrm
          clear ha har hli hbw hpc hrm
          gi_wp2
          gi_loopg [6] (s.size - at') (fun k2 v6 wr2 => ∃ t : Nat, at' ≤ t ∧ t + k2 = s.size ∧ v6 = .int .i64 (t : Nat) ∧ Clear s at' t ∧ wr2 = wr)
          case atStart => exact ⟨at', Nat.le_refl _, by omega, rfl, fun j h1 h2 => absurd h1 (by omega), rfl⟩
          case round =>
            obtain ⟨t, hat, hk2, rfl, hcl, rfl⟩ := hrel
            have CL := hide hcl
            clear hcl
            by_cases hlt : t < s.size
            · exact absurd hlt (by have := HA.out; omega)
            · have HT : Hid (t = s.size) := hide (by omega)
              have HE : Hid (t = s.size ∨ (t < s.size ∧ bt s t = 93)) := hide (.inl HT.out)
              have g0 : ¬ (t : Int) < (s.size : Int) := by omega
              have XS : Hid ((s.extract at' t).size ≤ 60000) := hide (by rw [ByteArray.size_extract]; omega)
              have hts : t ≤ s.size := by omega
              have hsl := slice2 s at' t hat hts
              gi_wp2_with fail
              clear hsl hts
              refine ⟨trivial, (callsIn_wide.2 (rread2_any (s.extract at' t) _ (by have := XS.out; omega))).mono ?_⟩
              rintro e y1 ⟨u, z, p, rfl, hi, hr, hb⟩
              obtain ⟨sb, sm, sn, sc, rfl, hi⟩ := rint_cells hi
              have RI := hide hi
              replace HB := hide (HB.out.trans (hb.mono HB.out.size))
              replace LI := hide (LI.out.below hb)
              clear hi hb
              gi_upto_region 13 with fail
              have b1 := below_alloc y1 (.cells #[.bool sb, .slice sm sn sc] 54)
              have XB := hide (Box2.new y1 54 (.bool sb) (.slice sm sn sc))
              have GXY : Hid (w.heap.size ≤ y1.heap.size) := hide HB.out.size
              replace HB := hide (HB.out.trans (b1.mono HB.out.size))
              replace LI := hide (LI.out.below b1)
              replace RI := hide (RI.out.below b1)
              clear b1
              generalize y1.alloc (.cells #[.bool sb, .slice sm sn sc] 54) = y2 at *
              obtain ⟨gx, hgx⟩ : ∃ g, g = y1.heap.size := ⟨_, rfl⟩
              rw [← hgx] at XB
              rw [← hgx]
              clear hgx
              have PC := hide (And.intro (pcs_end hat CL.out HE.out) (rem_end hat CL.out HE.out))
              rcases hr with ⟨ea, eb, hr, hne, rfl, rfl⟩ | ⟨hr, rfl⟩
              · have BS : eb ≤ 200000 := by have := hr.bsmall; have := XS.out; omega
                have RD := hide hr
                have TT := hide hne
                clear hr hne
                gi_wp2
                go_ret2
                exact ⟨_, _, [], rfl, .inr (.inr ⟨HH.out, H1.out, .inl ⟨pre, s.extract at' t, ea, eb, by rw [HP.out, PC.out.1]; exact List.prefix_refl _, ⟨zs, AR.out⟩, RD.out, TT.out, by rw [← HA.out]; omega⟩⟩), fun h => by omega, HB.out⟩
              · have RD := hide hr
                clear hr
                have al := below_alloc y2 (.cells #[.bool sb, .slice sm sn sc] 54)
                have TMP := hide (Box2.new y2 54 (.bool sb) (.slice sm sn sc))
                have LA := hide (LI.out.below al)
                have IA := hide (RI.out.below al)
                have BA := hide (HB.out.trans (al.mono HB.out.size))
                obtain ⟨xs, ho, hx⟩ := LA.out
                have OO := hide ho
                have OX := hide hx
                have LL : Hid (zs.length ≤ 70000) := hide (by have h1 := AR.out.1; have h2 := tot_few pre; have := HA.out; omega)
                have d0 := XB.out.cell0
                have d1 := XB.out.cell1
                clear al ho hx
                have hq : ((t : Int) == (s.size : Int)) = true := by simp; omega
                gi_wp2_with (gi_at_builtin; refine wpListIn_app2 _ rfl _ _ 27 rfl w.heap.size 54 i0 Tryd.underlying27 hi0 hq0 hq1 hq2 _ _ _ rfl OO.out y2.heap.size 1 sb sm sn sc rfl TMP.out.cell0 TMP.out.cell1 (by have := LL.out; omega) BA.out.size ?_; intro v' y3 hown hgrow hbl; have LN := hide (ListR.app OO.out OX.out IA.out hown hgrow); have BN := hide (below_grow BA.out hgrow BA.out.size (fun g e => (LA.out.lt e).1)); clear hown hgrow hbl d0 d1)
                go_ret2
                exact ⟨_, _, [], rfl, .inr (.inr ⟨HH.out, H1.out, .inr ⟨zs ++ [z], by rw [HP.out, PC.out.1]; exact AR.out.app RD.out, .inl ⟨by have h1 := HR.out; have h2 := PC.out.2; rw [h2, bl_len, ByteArray.size_extract] at h1; omega, by rw [HT.out]⟩⟩⟩), fun h => by omega, BN.out⟩
end Go.Proofs.YtdafdfgkfkanjaaDoor

namespace Go.Proofs.YtdafdfgkfkanjaaDoor
open Go.RowKit Go.Shelf

theorem IRd.err4 {s : ByteArray} {z : Int} {a b : Nat} (h : IRd s z a b) (hs : s.size ≤ 400) (ha : a ≠ 0) : a = 6 ∧ z = 0 := by
  rcases h with ⟨h, _, _⟩ | ⟨_, _, _, rfl, rfl, _⟩ | ⟨_, _, xs, c, d, hr, h3⟩
  · omega
  · exact ⟨rfl, rfl⟩
  · rcases h3 with ⟨hc, rfl, rfl, _⟩ | ⟨_, _, h, _⟩
    · have h2 := cutP_size s 45
      rcases hr with ⟨h, _⟩ | ⟨_, _, rfl, _⟩ | ⟨_, i, _, _, _, _, rfl, _⟩ | ⟨_, _, _, _, h, _⟩
      · omega
      · exact ⟨rfl, rfl⟩
      · exact ⟨rfl, rfl⟩
      · exact absurd h hc
    · exact absurd h ha
theorem ird_empty {s : ByteArray} (h : s.size = 0) : IRd s 0 6 0 := by
  have h1 : hp s 45 = false := by unfold hp; simp [h]
  exact .inr (.inr ⟨by omega, by rw [h1]; simp, [], 6, 0, by rw [cutP_no h1]; exact .inr (.inl ⟨h, rfl, rfl, rfl⟩), .inl ⟨by decide, rfl, rfl, by rw [cutP_no h1]; omega⟩⟩)
theorem AllRd.at {ps : List ByteArray} {zs : List Int} (h : AllRd ps zs) {i : Nat} {x : ByteArray} (hx : ps[i]? = some x) : IRd x (zs.getD i 0) 0 0 := by
  have hi := (List.getElem?_eq_some_iff.1 hx).1
  have := h.2 i hi
  rwa [List.getD_eq_getElem?_getD, hx] at this
theorem AllRd.same {ps : List ByteArray} {zs ys : List Int} (h : AllRd ps zs) (k : AllRd ps ys) : zs = ys := by
  apply List.ext_getElem (by rw [h.1, k.1])
  intro i h1 h2
  have hi : i < ps.length := by rw [← h.1]; exact h1
  have e := ((h.2 i hi).same (k.2 i hi)).1
  rw [List.getD_eq_getElem?_getD, List.getElem?_eq_getElem h1, List.getD_eq_getElem?_getD, List.getElem?_eq_getElem h2] at e
  simpa using e
theorem pre_get {ps pre : List ByteArray} {x : ByteArray} (h : pre ++ [x] <+: ps) : ps[pre.length]? = some x ∧ ∀ i, i < pre.length → ps[i]? = pre[i]? := by
  obtain ⟨t, rfl⟩ := h
  refine ⟨by simp, fun i hi => ?_⟩
  rw [List.append_assoc, List.getElem?_append_left hi]
/-- a piece that is none, all ahead being numbers: just one -/
theorem bad_one {ps pre qre : List ByteArray} {x y : ByteArray} {zs ys : List Int} {z u : Int} {a b c d : Nat} (h1 : pre ++ [x] <+: ps) (h2 : AllRd pre zs) (h3 : IRd x z a b) (h4 : a ≠ 0)
    (k1 : qre ++ [y] <+: ps) (k2 : AllRd qre ys) (k3 : IRd y u c d) (k4 : c ≠ 0) : pre = qre ∧ a = c ∧ b = d := by
  obtain ⟨g1, g2⟩ := pre_get h1
  obtain ⟨f1, f2⟩ := pre_get k1
  have hl : pre.length = qre.length := by
    rcases Nat.lt_trichotomy pre.length qre.length with h | h | h
    · have := k2.at (i := pre.length) (x := x) (by rw [← f2 _ h]; exact g1)
      exact absurd (h3.same this).2.1 h4
    · exact h
    · have := h2.at (i := qre.length) (x := y) (by rw [← g2 _ h]; exact f1)
      exact absurd (k3.same this).2.1 k4
  have hx : x = y := by rw [hl, f1] at g1; simpa using g1.symm
  subst hx
  refine ⟨?_, (h3.same k3).2⟩
  apply List.ext_getElem? fun i => ?_
  rcases Nat.lt_or_ge i pre.length with h | h
  · rw [← g2 i h, f2 i (by omega)]
  · rw [List.getElem?_eq_none h, List.getElem?_eq_none (by omega)]
theorem rnum_bad {s : ByteArray} {a0 b0 : Nat} (h : RNumP s a0 b0) (hs : s.size ≠ 0) {pre : List ByteArray} {x : ByteArray} {zs : List Int} {z : Int} {a b : Nat} (h1 : pre ++ [x] <+: splB 32 s) (h2 : AllRd pre zs) (h3 : IRd x z a b) (h4 : a ≠ 0) : a0 = a ∧ b0 = 1 + tot pre + b := by
  rcases h with ⟨h, _⟩ | ⟨_, ⟨ys, hy⟩, _⟩ | ⟨_, qre, y, u, d, k1, ⟨ys, k2⟩, k3, k4, rfl⟩
  · exact absurd h hs
  · exact absurd (h3.same (hy.at (pre_get h1).1)).2.1 h4
  · obtain ⟨rfl, rfl, rfl⟩ := bad_one h1 h2 h3 h4 k1 k2 k3 k4
    exact ⟨rfl, rfl⟩
theorem rnum_all {s : ByteArray} {a0 b0 : Nat} (h : RNumP s a0 b0) (hs : s.size ≠ 0) (hl : s.size ≤ 4000) {zs : List Int} (h2 : AllRd (splB 32 s) zs) : a0 = 0 ∧ b0 = 0 := by
  rcases h with ⟨h, _⟩ | ⟨_, _, rfl, rfl⟩ | ⟨_, qre, y, u, d, k1, _, k3, k4, rfl⟩
  · exact absurd h hs
  · have := spl_few 32 s
    unfold spE spA
    rw [if_pos (by omega), if_pos (by omega)]
    exact ⟨rfl, rfl⟩
  · exact absurd (k3.same (h2.at (pre_get k1).1)).2.1 k4
theorem bl_rest (s : ByteArray) : bl (rest1 s) = (bl s).drop 1 := by unfold rest1; rw [bl_ext, ← bl_len, List.take_length]
theorem take_while {l : List UInt8} {c : UInt8} : (c ∉ l → l.takeWhile (· != c) = l) ∧ ∀ o, l = l.take o ++ c :: l.drop (o + 1) → c ∉ l.take o → l.takeWhile (· != c) = l.take o := by
  have key : ∀ m : List UInt8, c ∉ m → ∀ x ∈ m, (x != c) = true := fun m h x hx => by simp only [bne_iff_ne, ne_eq]; rintro rfl; exact h hx
  constructor
  · intro h
    have := List.takeWhile_append_of_pos (p := (· != c)) (l₁ := l) (l₂ := []) (key l h)
    simpa using this
  · intro o e h
    conv => lhs; rw [e]
    rw [List.takeWhile_append_of_pos (key _ h)]
    simp
/-- the parts of a text by the first ] -/
theorem cut_rem {s : ByteArray} (h : 1 ≤ s.size) : (cutB 93 (rest1 s)).1 = mkB (rem s 1) ∧
    (((cutB 93 (rest1 s)).2.2 = false ∧ 1 + (rem s 1).length = s.size) ∨ ((cutB 93 (rest1 s)).2.2 = true ∧ (cutB 93 (rest1 s)).2.1.size + (rem s 1).length + 2 = s.size ∧ bl s = (bl s).take 1 ++ rem s 1 ++ 93 :: bl (cutB 93 (rest1 s)).2.1)) := by
  unfold cutB rem
  rw [bl_rest]
  have hlen : ((bl s).drop 1).length = s.size - 1 := by rw [List.length_drop, bl_len]
  rcases idx_cases ((bl s).drop 1) 93 with ⟨e, hn⟩ | ⟨o, e, ho, hb, hn⟩
  · rw [e, take_while.1 hn]
    simp only [show ((-1 : Int) < 0) = True from by simp, if_true]
    refine ⟨?_, .inl ⟨by decide, by rw [hlen]; omega⟩⟩
    rw [← bl_rest, mkB_bl]
  · rw [e, take_while.2 o hb hn]
    rw [if_neg (by omega)]
    have e1 : ((o : Int)).toNat = o := by omega
    refine ⟨?_, .inr ⟨rfl, ?_, ?_⟩⟩
    · apply bl_inj
      rw [bl_mkB, bl_ext, bl_rest, List.drop_zero, e1]
    · show ((rest1 s).extract _ _).size + _ + 2 = _
      rw [ByteArray.size_extract, rest1_size, List.length_take, hlen, e1]
      omega
    · show _ = _ ++ 93 :: bl ((rest1 s).extract _ _)
      rw [bl_ext, bl_rest, e1, rest1_size, ← hlen, List.take_length, List.append_assoc, ← hb, List.take_append_drop]
theorem join_spl (c : UInt8) : ∀ l : List UInt8, Lib.join (spl c l) [c] = l
  | [] => rfl
  | b :: l => by
    have h := join_spl c l
    have hne := (spl_tot c l).2
    rw [spl]
    cases hs : spl c l with
    | nil => exact absurd hs hne
    | cons q qs =>
      rw [hs] at h
      split
      · rename_i hb
        subst hb
        rw [show Lib.join ([] :: q :: qs) [b] = b :: Lib.join (q :: qs) [b] from by simp [Lib.join, List.intercalate, List.intersperse], h]
      · cases qs with
        | nil => simp only [Lib.join, List.intercalate, List.intersperse] at h ⊢; simpa using h
        | cons r rs => simp only [Lib.join, List.intercalate, List.intersperse] at h ⊢; simp at h ⊢; exact h
theorem wtxt_bl (zs : List Int) : bl (wtxt zs) = 91 :: (Lib.join (zs.map fun z => (itxt z).data.toList) [32] ++ [93]) := by
  unfold wtxt bl
  simp [ByteArray.data_append]
theorem told_all {ps : List ByteArray} {zs : List Int} (h : AllRd ps zs) : zs.map (fun z => (itxt z).data.toList) = ps.map bl := by
  apply List.ext_getElem (by simp [h.1])
  intro i h1 h2
  simp only [List.length_map] at h1 h2
  have := (h.2 i h2).told.1
  simp only [List.getElem_map]
  rw [List.getD_eq_getElem?_getD, List.getElem?_eq_getElem h1, List.getD_eq_getElem?_getD, List.getElem?_eq_getElem h2] at this
  simp only [Option.getD_some] at this
  show (itxt zs[i]).data.toList = bl ps[i]
  rw [this]
  rfl
theorem map_spl (s : ByteArray) : (splB 32 s).map bl = spl 32 (bl s) := by
  unfold splB
  rw [List.map_map]
  conv => rhs; rw [← List.map_id (spl 32 (bl s))]
  apply List.map_congr_left
  intro p _
  exact bl_mkB p
end Go.Proofs.YtdafdfgkfkanjaaDoor

namespace Go.Proofs.YtdafdfgkfkanjaaDoor
open Go.RowKit Go.Shelf

def fl (n : Nat) : List UInt8 := (List.replicate n [49, 32]).flatten
theorem fl_succ (n : Nat) : fl (n + 1) = 49 :: 32 :: fl n := rfl
theorem fl_len : ∀ n, (fl n).length = 2 * n
  | 0 => rfl
  | n + 1 => by rw [fl_succ]; simp [fl_len n]; omega
theorem fl_no : ∀ n, ∀ c ∈ fl n, (c != 93) = true
  | 0, c, h => by cases h
  | n + 1, c, h => by
    rw [fl_succ] at h
    rcases List.mem_cons.1 h with rfl | h
    · rfl
    · rcases List.mem_cons.1 h with rfl | h
      · rfl
      · exact fl_no n c h
theorem spl_fl : ∀ n, spl 32 (fl n ++ [49]) = List.replicate (n + 1) [49]
  | 0 => rfl
  | n + 1 => by
    rw [fl_succ, show (49 :: 32 :: fl n : List UInt8) ++ [49] = [49] ++ 32 :: (fl n ++ [49]) from rfl, spl_at (by decide), spl_fl n]
    rfl
theorem one_told : itxt 1 = mkB [49] := by decide +kernel
theorem one_rd : IRd (mkB [49]) 1 0 0 := by
  rw [← one_told]
  exact ird_told 1 (by rw [one_told]; decide)
theorem all_ones (n : Nat) : AllRd (List.replicate n (mkB [49])) (List.replicate n 1) := by
  refine ⟨by simp, fun i hi => ?_⟩
  rw [List.length_replicate] at hi
  rw [List.getD_eq_getElem?_getD, List.getElem?_replicate, if_pos hi, List.getD_eq_getElem?_getD, List.getElem?_replicate, if_pos hi]
  exact one_rd
theorem tot_ones : ∀ n, tot (List.replicate n (mkB [49])) = 2 * n
  | 0 => rfl
  | n + 1 => by
    rw [List.replicate_succ, show (mkB [49] :: List.replicate n (mkB [49])) = [mkB [49]] ++ List.replicate n (mkB [49]) from rfl, tot_append, tot_ones n]
    show tot [mkB [49]] + _ = _
    rw [show tot [mkB [49]] = 2 from rfl]
    omega
theorem ones_read {s : ByteArray} {n : Nat} (hb : bl s = 91 :: (fl n ++ [49, 93])) (hn : 2 * n + 3 ≤ 65536) {v : Value} {a b : Nat} {w : World} (h : RowRd s v a b w) :
    (n + 1 ≤ 4096 → a = 0 ∧ b = 0 ∧ ∃ zs : List Int, zs.length = n + 1 ∧ Ints w v zs) ∧ (4096 < n + 1 → v = .slice none 0 0 ∧ a = 3 ∧ b = 1 + 2 * 4096) := by
  have hsz : s.size = 2 * n + 3 := by rw [← bl_len, hb, List.length_cons, List.length_append, fl_len]; rfl
  have hr : rem s 1 = fl n ++ [49] := by
    unfold rem
    rw [hb, List.drop_succ_cons, List.drop_zero, List.takeWhile_append_of_pos (fl_no n)]
    rfl
  have hrl : (rem s 1).length = 2 * n + 1 := by rw [hr, List.length_append, fl_len]; rfl
  have hh : hp s 91 = true := by
    unfold hp
    obtain ⟨c, h1, h2⟩ := bl_get s 0 (by omega)
    rw [hb] at h1
    simp only [List.getElem?_cons_zero, Option.some.injEq] at h1
    subst h1
    simp [← h2, hsz]
  obtain ⟨ct, cr⟩ := cut_rem (s := s) (by omega)
  obtain ⟨q1, q2⟩ : (cutB 93 (rest1 s)).2.2 = true ∧ (cutB 93 (rest1 s)).2.1.size = 0 := by
    rcases cr with ⟨_, h⟩ | ⟨h, h', _⟩
    · omega
    · exact ⟨h, by omega⟩
  have hps : splB 32 (cutB 93 (rest1 s)).1 = List.replicate (n + 1) (mkB [49]) := by
    rw [ct, hr]
    unfold splB
    rw [bl_mkB, spl_fl, List.map_replicate]
  have hne : (cutB 93 (rest1 s)).1.size ≠ 0 := by rw [ct, ← bl_len, bl_mkB, hrl]; omega
  rcases h with ⟨h, _⟩ | ⟨_, h, _⟩ | ⟨_, _, a0, b0, hn0, hc⟩
  · omega
  · rw [hh] at h; cases h
  · have ha : a0 = spE (List.replicate (n + 1) (mkB [49])) ∧ b0 = spA (List.replicate (n + 1) (mkB [49])) := by
      rcases hn0 with ⟨h, _⟩ | ⟨_, _, h⟩ | ⟨_, pre, x, z, d, g1, _, g3, g4, _⟩
      · exact absurd h hne
      · rw [hps] at h; exact h
      · rw [hps] at g1
        exact absurd (g3.same ((all_ones (n + 1)).at (pre_get g1).1)).2.1 g4
    unfold spE spA at ha
    rw [List.length_replicate] at ha
    constructor
    · intro hle
      rw [if_pos hle, if_pos hle] at ha
      obtain ⟨rfl, rfl⟩ := ha
      rcases hc with ⟨h, _⟩ | ⟨_, q, _⟩ | ⟨_, _, q, _⟩ | ⟨_, q, _⟩ | ⟨_, _, _, rfl, rfl, zs, hz, hi⟩
      · cases h
      · rw [q1] at q; cases q
      · exact absurd q2 q
      · exact absurd rfl q
      · refine ⟨rfl, rfl, zs, ?_, hi⟩
        rcases hz with ⟨h, _⟩ | ⟨_, h⟩
        · exact absurd h hne
        · rw [h.1, hps, List.length_replicate]
    · intro hlt
      rw [if_neg (by omega), if_neg (by omega), List.take_replicate, tot_ones, Nat.min_eq_left (by omega)] at ha
      obtain ⟨rfl, rfl⟩ := ha
      rcases hc with ⟨h, _⟩ | ⟨_, q, _⟩ | ⟨_, _, q, _⟩ | ⟨_, _, _, _, rfl, rfl, rfl⟩ | ⟨h, _⟩
      · cases h
      · rw [q1] at q; cases q
      · exact absurd q2 q
      · exact ⟨rfl, rfl, rfl⟩
      · cases h
end Go.Proofs.YtdafdfgkfkanjaaDoor
